/- The functions, as plain Lean: written by gen2.py. -/
import Derived.Test.YtielgloflidhnaaGreatDoorEng
namespace Go.Proofs.YtielgloflidhnaaGreatDoor.M
open Go.Eng Go
set_option linter.unusedVariables false

structure T_api_Value where
  Kind : Int
  N : Int
  S : Bytes
  L : (List Bytes)
def T_api_Value_tup (x : T_api_Value) : Int × Int × Bytes × (List Bytes) × Unit := (x.Kind, x.N, x.S, x.L, ())
def T_api_Value_rep0 := (Rep.cons (Rep.int .i64) (Rep.cons (Rep.int .i64) (Rep.cons (Rep.str) (Rep.cons ((Rep.str).slice) Rep.nil0))))
def T_api_Value_rep : Rep T_api_Value := T_api_Value_rep0.iso T_api_Value_tup
def T_api_Value_zero : T_api_Value := ⟨0, 0, [], []⟩
instance : Inhabited T_api_Value := ⟨T_api_Value_zero⟩

structure T_api_Event where
  At : Int
  Kind : Int
  Id : Int
  Subject : Bytes
  Object : Bytes
  Name : Bytes
  Value : T_api_Value
def T_api_Event_tup (x : T_api_Event) : Int × Int × Int × Bytes × Bytes × Bytes × T_api_Value × Unit := (x.At, x.Kind, x.Id, x.Subject, x.Object, x.Name, x.Value, ())
def T_api_Event_rep0 := (Rep.cons (Rep.int .i64) (Rep.cons (Rep.int .i64) (Rep.cons (Rep.int .i64) (Rep.cons (Rep.str) (Rep.cons (Rep.str) (Rep.cons (Rep.str) (Rep.cons (T_api_Value_rep) Rep.nil0)))))))
def T_api_Event_rep : Rep T_api_Event := T_api_Event_rep0.iso T_api_Event_tup
def T_api_Event_zero : T_api_Event := ⟨0, 0, 0, [], [], [], T_api_Value_zero⟩
instance : Inhabited T_api_Event := ⟨T_api_Event_zero⟩

noncomputable def lex_begins (c_0 : Int) : Option Bool :=
  lt (cond (cond (cond (decide (97 ≤ c_0)) (decide (c_0 ≤ 122)) false) true (cond (decide (65 ≤ c_0)) (decide (c_0 ≤ 90)) false)) true (c_0 == 95)) fun (z1 : Bool) =>
  some z1

noncomputable def lex_digit (c_0 : Int) : Option Bool :=
  lt (cond (decide (48 ≤ c_0)) (decide (c_0 ≤ 57)) false) fun (z1 : Bool) =>
  some z1

noncomputable def lex_run_L1b (s_0 : Bytes) (z2 : Int) : Option (Int ⊕ Int) :=
  (gd (true && ((decide (z2 < (s_0.length : Int))) == true)) (idxb s_0 z2) 0).bind fun (z3 : Int) =>
  (gd (true && ((decide (z2 < (s_0.length : Int))) == true)) (lex_begins z3) false).bind fun (z4 : Bool) =>
  (gd ((true && ((decide (z2 < (s_0.length : Int))) == true)) && (z4 == false)) (idxb s_0 z2) 0).bind fun (z5 : Int) =>
  (gd ((true && ((decide (z2 < (s_0.length : Int))) == true)) && (z4 == false)) (lex_digit z5) false).bind fun (z6 : Bool) =>
  cond (cond (decide (z2 < (s_0.length : Int))) (cond z4 true z6) false)
    (some (.inl (IntKind.i64.wrap (z2 + 1))))
    (brk (some z2))
noncomputable def lex_run_L1 (s_0 : Bytes) (z2 : Int) : Option Int := loopO (lex_run_L1b s_0) z2

noncomputable def lex_run (s_0 : Bytes) : Option Int :=
  (lex_run_L1 s_0 0).bind fun (z1 : Int) =>
  some z1

noncomputable def lex_Name (s_0 : Bytes) : Option Bool :=
  (gd (true && ((cond (s_0 != ([] : Bytes)) (decide ((s_0.length : Int) ≤ 16)) false) == true)) (idxb s_0 0) 0).bind fun (z1 : Int) =>
  (gd (true && ((cond (s_0 != ([] : Bytes)) (decide ((s_0.length : Int) ≤ 16)) false) == true)) (lex_begins z1) false).bind fun (z2 : Bool) =>
  (gd (true && ((cond (cond (s_0 != ([] : Bytes)) (decide ((s_0.length : Int) ≤ 16)) false) z2 false) == true)) (lex_run s_0) 0).bind fun (z3 : Int) =>
  lt (cond (cond (cond (s_0 != ([] : Bytes)) (decide ((s_0.length : Int) ≤ 16)) false) z2 false) (z3 == (s_0.length : Int)) false) fun (z4 : Bool) =>
  some z4

noncomputable def value_long (s_0 : Bytes) : Option Bool :=
  some (decide (32 < (s_0.length : Int)))

noncomputable def slices_IndexFunc_string_string_v0_L1b (s_0 : (List Bytes)) (z2 : Int) : Option (Int ⊕ (Unit ⊕ Int)) :=
  cond (decide (z2 < (s_0.length : Int)))
    ((idx s_0 z2).bind fun (z3 : Bytes) =>
    (value_long z3).bind fun (z4 : Bool) =>
    cond z4
      (brk (brk (some z2)))
      (some (.inl (IntKind.i64.wrap (z2 + 1)))))
    (brk (some (.inl ())))
noncomputable def slices_IndexFunc_string_string_v0_L1 (s_0 : (List Bytes)) (z2 : Int) : Option (Unit ⊕ Int) := loopO (slices_IndexFunc_string_string_v0_L1b s_0) z2

noncomputable def slices_IndexFunc_string_string_v0 (s_0 : (List Bytes)) : Option Int :=
  both (slices_IndexFunc_string_string_v0_L1 s_0 0) fun (z1 : Unit) =>
  some (-1)

noncomputable def slices_ContainsFunc_string_string_v0 (s_0 : (List Bytes)) : Option Bool :=
  (slices_IndexFunc_string_string_v0 s_0).bind fun (z1 : Int) =>
  some (decide (0 ≤ z1))

noncomputable def value_rises_L1b (l_0 : (List Bytes)) (z2 : Int) : Option (Int ⊕ (Unit ⊕ Bool)) :=
  cond (decide (z2 < (l_0.length : Int)))
    ((gd (true && ((decide (0 < z2)) == true)) (idx l_0 (IntKind.i64.wrap (z2 - 1))) []).bind fun (z3 : Bytes) =>
    (gd (true && ((decide (0 < z2)) == true)) (idx l_0 z2) []).bind fun (z4 : Bytes) =>
    cond (cond (decide (0 < z2)) (!(less z3 z4)) false)
      (brk (brk (some false)))
      (some (.inl (IntKind.i64.wrap (z2 + 1)))))
    (brk (some (.inl ())))
noncomputable def value_rises_L1 (l_0 : (List Bytes)) (z2 : Int) : Option (Unit ⊕ Bool) := loopO (value_rises_L1b l_0) z2

noncomputable def value_rises (l_0 : (List Bytes)) : Option Bool :=
  both (value_rises_L1 l_0 0) fun (z1 : Unit) =>
  some true

noncomputable def value_fits (v_0 : T_api_Value) : Option Bool :=
  cond (v_0.Kind == 1)
    (lt (cond (v_0.S == ([] : Bytes)) ((v_0.L.length : Int) == 0) false) fun (z2 : Bool) =>
    some z2)
    (cond (v_0.Kind == 2)
      (lt (cond (cond (cond (v_0.N == 0) true (v_0.N == 1)) (v_0.S == ([] : Bytes)) false) ((v_0.L.length : Int) == 0) false) fun (z3 : Bool) =>
      some z3)
      (cond (v_0.Kind == 3)
        (lt (cond (v_0.N == 0) ((v_0.L.length : Int) == 0) false) fun (z4 : Bool) =>
        some z4)
        ((gd (true && ((cond (v_0.N == 0) (v_0.S == ([] : Bytes)) false) == true)) (value_rises v_0.L) false).bind fun (z5 : Bool) =>
        lt (cond (cond (v_0.N == 0) (v_0.S == ([] : Bytes)) false) z5 false) fun (z6 : Bool) =>
        some z6)))

noncomputable def value_Check (v_0 : T_api_Value) : Option Int :=
  lt (cond (decide (v_0.Kind < 1)) true (decide (4 < v_0.Kind))) fun (z2 : Bool) =>
  cond z2
    (some 12)
    ((value_long v_0.S).bind fun (z3 : Bool) =>
    (gd (true && (z3 == false)) (slices_ContainsFunc_string_string_v0 v_0.L) false).bind fun (z4 : Bool) =>
    cond (cond z3 true z4)
      (some 5)
      (cond (decide (8 < (v_0.L.length : Int)))
        (some 3)
        ((value_fits v_0).bind fun (z5 : Bool) =>
        cond (!z5)
          (some 4)
          (some 0))))

noncomputable def cmp_isNaN_int (x_0 : Int) : Option Bool :=
  some (x_0 != x_0)

noncomputable def cmp_Compare_int (x_0 : Int) (y_1 : Int) : Option Int :=
  (cmp_isNaN_int x_0).bind fun (z1 : Bool) =>
  (cmp_isNaN_int y_1).bind fun (z2 : Bool) =>
  cond z1
    (cond z2
      (some 0)
      (some (-1)))
    (cond z2
      (some 1)
      (cond (decide (x_0 < y_1))
        (some (-1))
        (cond (decide (y_1 < x_0))
          (some 1)
          (some 0))))

noncomputable def cmp_isNaN_int64 (x_0 : Int) : Option Bool :=
  some (x_0 != x_0)

noncomputable def cmp_Compare_int64 (x_0 : Int) (y_1 : Int) : Option Int :=
  (cmp_isNaN_int64 x_0).bind fun (z1 : Bool) =>
  (cmp_isNaN_int64 y_1).bind fun (z2 : Bool) =>
  cond z1
    (cond z2
      (some 0)
      (some (-1)))
    (cond z2
      (some 1)
      (cond (decide (x_0 < y_1))
        (some (-1))
        (cond (decide (y_1 < x_0))
          (some 1)
          (some 0))))

noncomputable def cmp_isNaN_string (x_0 : Bytes) : Option Bool :=
  some (x_0 != x_0)

noncomputable def cmp_Compare_string (x_0 : Bytes) (y_1 : Bytes) : Option Int :=
  (cmp_isNaN_string x_0).bind fun (z1 : Bool) =>
  (cmp_isNaN_string y_1).bind fun (z2 : Bool) =>
  cond z1
    (cond z2
      (some 0)
      (some (-1)))
    (cond z2
      (some 1)
      (cond (less x_0 y_1)
        (some (-1))
        (cond (!(less x_0 y_1 || x_0 == y_1))
          (some 1)
          (some 0))))

noncomputable def slices_Compare_string_string_L1b (s1_0 : (List Bytes)) (s2_1 : (List Bytes)) (z2 : Int) : Option (Int ⊕ (Unit ⊕ Int)) :=
  cond (decide (z2 < (s1_0.length : Int)))
    ((idx s1_0 z2).bind fun (z3 : Bytes) =>
    cond (decide ((s2_1.length : Int) ≤ z2))
      (brk (brk (some 1)))
      ((idx s2_1 z2).bind fun (z4 : Bytes) =>
      (cmp_Compare_string z3 z4).bind fun (z5 : Int) =>
      cond (z5 != 0)
        (brk (brk (some z5)))
        (some (.inl (IntKind.i64.wrap (z2 + 1))))))
    (brk (some (.inl ())))
noncomputable def slices_Compare_string_string_L1 (s1_0 : (List Bytes)) (s2_1 : (List Bytes)) (z2 : Int) : Option (Unit ⊕ Int) := loopO (slices_Compare_string_string_L1b s1_0 s2_1) z2

noncomputable def slices_Compare_string_string (s1_0 : (List Bytes)) (s2_1 : (List Bytes)) : Option Int :=
  both (slices_Compare_string_string_L1 s1_0 s2_1 0) fun (z1 : Unit) =>
  cond (decide ((s1_0.length : Int) < (s2_1.length : Int)))
    (some (-1))
    (some 0)

noncomputable def cmp_Or_int_L1b (vals_0 : (List Int)) (z2 : Int) : Option (Int ⊕ (Unit ⊕ Int)) :=
  cond (decide (z2 < (vals_0.length : Int)))
    ((idx vals_0 z2).bind fun (z3 : Int) =>
    cond (z3 != 0)
      (brk (brk (some z3)))
      (some (.inl (IntKind.i64.wrap (z2 + 1)))))
    (brk (some (.inl ())))
noncomputable def cmp_Or_int_L1 (vals_0 : (List Int)) (z2 : Int) : Option (Unit ⊕ Int) := loopO (cmp_Or_int_L1b vals_0) z2

noncomputable def cmp_Or_int (vals_0 : (List Int)) : Option Int :=
  both (cmp_Or_int_L1 vals_0 0) fun (z1 : Unit) =>
  some 0

noncomputable def value_Cmp (a_0 : T_api_Value) (b_1 : T_api_Value) : Option Int :=
  (cmp_Compare_int a_0.Kind b_1.Kind).bind fun (z3 : Int) =>
  (cmp_Compare_int64 a_0.N b_1.N).bind fun (z4 : Int) =>
  (cmp_Compare_string a_0.S b_1.S).bind fun (z5 : Int) =>
  (slices_Compare_string_string a_0.L b_1.L).bind fun (z6 : Int) =>
  (cmp_Or_int ([z3, z4, z5, z6] : List Int)).bind fun (z7 : Int) =>
  some z7

noncomputable def value_Same (a_0 : T_api_Value) (b_1 : T_api_Value) : Option Bool :=
  (value_Cmp a_0 b_1).bind fun (z3 : Int) =>
  some (z3 == 0)

noncomputable def event_fits (e_0 : T_api_Event) : Option Bool :=
  cond (cond (cond (e_0.Kind == 4) true (e_0.Kind == 5)) (e_0.Id != 0) false)
    (some false)
    (cond (e_0.Kind == 4)
      ((lex_Name e_0.Subject).bind fun (z2 : Bool) =>
      (gd (true && ((cond z2 (e_0.Object == ([] : Bytes)) false) == true)) (lex_Name e_0.Name) false).bind fun (z3 : Bool) =>
      (gd (true && ((cond (cond z2 (e_0.Object == ([] : Bytes)) false) z3 false) == true)) (value_Check e_0.Value) 0).bind fun (z4 : Int) =>
      lt (cond (cond (cond z2 (e_0.Object == ([] : Bytes)) false) z3 false) (z4 == 0) false) fun (z5 : Bool) =>
      some z5)
      ((value_Same e_0.Value (⟨0, 0, [], []⟩ : T_api_Value)).bind fun (z6 : Bool) =>
      cond (!z6)
        (some false)
        (cond (e_0.Kind == 1)
          ((lex_Name e_0.Subject).bind fun (z7 : Bool) =>
          (gd (true && (z7 == true)) (lex_Name e_0.Object) false).bind fun (z8 : Bool) =>
          (gd (true && ((cond z7 z8 false) == true)) (lex_Name e_0.Name) false).bind fun (z9 : Bool) =>
          some (cond (cond z7 z8 false) z9 false))
          (cond (e_0.Kind == 2)
            ((gd (true && ((cond (e_0.Subject == ([] : Bytes)) (e_0.Object == ([] : Bytes)) false) == true)) (lex_Name e_0.Name) false).bind fun (z10 : Bool) =>
            lt (cond (cond (e_0.Subject == ([] : Bytes)) (e_0.Object == ([] : Bytes)) false) z10 false) fun (z11 : Bool) =>
            some z11)
            (lt (cond (cond (e_0.Subject == ([] : Bytes)) (e_0.Object == ([] : Bytes)) false) (e_0.Name == ([] : Bytes)) false) fun (z12 : Bool) =>
            some z12)))))

noncomputable def event_Check (e_0 : T_api_Event) : Option Int :=
  lt (cond (decide (e_0.Kind < 1)) true (decide (5 < e_0.Kind))) fun (z2 : Bool) =>
  cond z2
    (some 12)
    (lt (cond (cond (decide (e_0.At < 0)) true (decide (e_0.Id < 0))) true (decide (64 ≤ e_0.Id))) fun (z3 : Bool) =>
    cond z3
      (some 4)
      ((event_fits e_0).bind fun (z4 : Bool) =>
      cond (!z4)
        (some 16)
        (some 0)))

noncomputable def strings_IndexAny (s : Bytes) (cs : Bytes) : Option Int := sIndexAny s cs

noncomputable def strings_ContainsAny (s_0 : Bytes) (chars_1 : Bytes) : Option Bool :=
  (strings_IndexAny s_0 chars_1).bind fun (z1 : Int) =>
  some (decide (0 ≤ z1))

noncomputable def lex_Plain (s_0 : Bytes) : Option Bool :=
  (gd (true && ((decide ((s_0.length : Int) ≤ 32)) == true)) (strings_ContainsAny s_0 ([34, 10] : Bytes)) false).bind fun (z1 : Bool) =>
  lt (cond (decide ((s_0.length : Int) ≤ 32)) (!z1) false) fun (z2 : Bool) =>
  some z2

noncomputable def script_plain_L1b (l_0 : (List Bytes)) (z2 : Int) : Option (Int ⊕ (Unit ⊕ Bool)) :=
  cond (decide (z2 < (l_0.length : Int)))
    ((idx l_0 z2).bind fun (z3 : Bytes) =>
    (lex_Plain z3).bind fun (z4 : Bool) =>
    cond (!z4)
      (brk (brk (some false)))
      (some (.inl (IntKind.i64.wrap (z2 + 1)))))
    (brk (some (.inl ())))
noncomputable def script_plain_L1 (l_0 : (List Bytes)) (z2 : Int) : Option (Unit ⊕ Bool) := loopO (script_plain_L1b l_0) z2

noncomputable def script_plain (l_0 : (List Bytes)) : Option Bool :=
  both (script_plain_L1 l_0 0) fun (z1 : Unit) =>
  some true

noncomputable def num_count_L1b  (z2 : (Int × Int)) : Option ((Int × Int) ⊕ Int) :=
  cond (decide (10 ≤ z2.1))
    (some (.inl (IntKind.u64.wrap (Int.tdiv z2.1 10), IntKind.i64.wrap (z2.2 + 1))))
    (brk (some z2.2))
noncomputable def num_count_L1  (z2 : (Int × Int)) : Option Int := loopO (num_count_L1b ) z2

noncomputable def num_count (n_0 : Int) : Option Int :=
  (num_count_L1  (n_0, 1)).bind fun (z1 : Int) =>
  some z1

noncomputable def num_Decimal_L1b (z3 : List Int) (z7 : (Int × Int × (List Int))) : Option ((Int × Int × (List Int)) ⊕ (List Int)) :=
  cond (decide (z7.2.1 < (z3.length : Int)))
    ((at? z7.2.2 (IntKind.i64.wrap ((IntKind.i64.wrap ((z7.2.2.length : Int) - 1)) - z7.2.1))).bind fun (z8 : Nat) =>
    some (.inl (IntKind.u64.wrap (Int.tdiv z7.1 10), IntKind.i64.wrap (z7.2.1 + 1), (z7.2.2.set z8 (IntKind.u8.wrap (48 + (IntKind.u8.wrap (Int.tmod z7.1 10))))))))
    (brk (some z7.2.2))
noncomputable def num_Decimal_L1 (z3 : List Int) (z7 : (Int × Int × (List Int))) : Option (List Int) := loopO (num_Decimal_L1b z3) z7

noncomputable def num_Decimal (n_0 : Int) : Option Bytes :=
  (cond (decide (n_0 < 0))
    (lt (IntKind.u64.wrap (0 - (IntKind.u64.wrap n_0))) fun (size9 : Int) =>
    some (size9, ([45] : Bytes)))
    (some (IntKind.u64.wrap n_0, ([] : Bytes)))).bind fun (z1 : (Int × Bytes)) =>
  (num_count z1.1).bind fun (z2 : Int) =>
  (mk 1 (0 : Int) z2).bind fun (z3 : List Int) =>
  (num_Decimal_L1 z3 (z1.1, 0, z3)).bind fun (z5 : (List Int)) =>
  (cat z1.2 (toBytes z5)).bind fun (z6 : Bytes) =>
  some z6

noncomputable def strings_Join (xs : (List Bytes)) (sep : Bytes) : Option Bytes := sJoin xs sep

noncomputable def script_line (a_0 : Int) (l_1 : (List Bytes)) : Option Bytes :=
  (num_Decimal a_0).bind fun (z1 : Bytes) =>
  (cat z1 ([32] : Bytes)).bind fun (z2 : Bytes) =>
  (strings_Join l_1 ([32] : Bytes)).bind fun (z3 : Bytes) =>
  (cat z2 z3).bind fun (z4 : Bytes) =>
  some z4

noncomputable def internal_strconv_FormatBool (b_0 : Bool) : Option Bytes :=
  cond b_0
    (some ([116, 114, 117, 101] : Bytes))
    (some ([102, 97, 108, 115, 101] : Bytes))

noncomputable def strconv_FormatBool (b_0 : Bool) : Option Bytes :=
  (internal_strconv_FormatBool b_0).bind fun (z1 : Bytes) =>
  some z1

noncomputable def print_Quote (s_0 : Bytes) : Option Bytes :=
  (cat ([34] : Bytes) s_0).bind fun (z1 : Bytes) =>
  (cat z1 ([34] : Bytes)).bind fun (z2 : Bytes) =>
  some z2

noncomputable def script_text_L1b (v_0 : T_api_Value) (z9 : (Int × (List Bytes))) : Option ((Int × (List Bytes)) ⊕ (List Bytes)) :=
  cond (decide (z9.1 < (v_0.L.length : Int)))
    ((idx v_0.L z9.1).bind fun (z10 : Bytes) =>
    (print_Quote z10).bind fun (z11 : Bytes) =>
    (app 16 z9.2 ([z11] : List Bytes)).bind fun (z12 : List Bytes) =>
    some (.inl (IntKind.i64.wrap (z9.1 + 1), z12)))
    (brk (some z9.2))
noncomputable def script_text_L1 (v_0 : T_api_Value) (z9 : (Int × (List Bytes))) : Option (List Bytes) := loopO (script_text_L1b v_0) z9

noncomputable def script_text (v_0 : T_api_Value) : Option Bytes :=
  cond (v_0.Kind == 1)
    ((num_Decimal v_0.N).bind fun (z2 : Bytes) =>
    some z2)
    (cond (v_0.Kind == 2)
      ((strconv_FormatBool (v_0.N != 0)).bind fun (z3 : Bytes) =>
      some z3)
      (cond (v_0.Kind == 3)
        ((print_Quote v_0.S).bind fun (z4 : Bytes) =>
        some z4)
        ((script_text_L1 v_0 (0, ([] : (List Bytes)))).bind fun (z5 : (List Bytes)) =>
        (strings_Join z5 ([44] : Bytes)).bind fun (z6 : Bytes) =>
        (cat ([123] : Bytes) z6).bind fun (z7 : Bytes) =>
        (cat z7 ([125] : Bytes)).bind fun (z8 : Bytes) =>
        some z8)))

noncomputable def script_Line (e_0 : T_api_Event) : Option (Bytes × Int) :=
  (event_Check e_0).bind fun (z2 : Int) =>
  cond (z2 != 0)
    (some (([] : Bytes), z2))
    ((script_plain ([e_0.Value.S] : List Bytes)).bind fun (z3 : Bool) =>
    (gd (true && ((!z3) == false)) (script_plain e_0.Value.L) false).bind fun (z4 : Bool) =>
    cond (cond (!z3) true (!z4))
      (some (([] : Bytes), 16))
      ((num_Decimal e_0.Id).bind fun (z5 : Bytes) =>
      cond (e_0.Kind == 1)
        ((script_line e_0.At ([([116, 114, 121] : Bytes), z5, e_0.Subject, e_0.Object, e_0.Name] : List Bytes)).bind fun (z6 : Bytes) =>
        some (z6, 0))
        (cond (e_0.Kind == 2)
          ((script_line e_0.At ([([117, 115, 101] : Bytes), z5, e_0.Name] : List Bytes)).bind fun (z7 : Bytes) =>
          some (z7, 0))
          (cond (e_0.Kind == 3)
            ((script_line e_0.At ([([101, 110, 100] : Bytes), z5] : List Bytes)).bind fun (z8 : Bytes) =>
            some (z8, 0))
            (cond (e_0.Kind == 4)
              ((script_text e_0.Value).bind fun (z9 : Bytes) =>
              (script_line e_0.At ([([115, 101, 116] : Bytes), e_0.Subject, e_0.Name, z9] : List Bytes)).bind fun (z10 : Bytes) =>
              some (z10, 0))
              ((script_line e_0.At ([([116, 105, 99, 107] : Bytes)] : List Bytes)).bind fun (z11 : Bytes) =>
              some (z11, 0)))))))

noncomputable def strings_SplitN (s : Bytes) (sep : Bytes) (n : Int) : Option (List Bytes) := sSplitN s sep n

noncomputable def num_Sub (a_0 : Int) (b_1 : Int) : Option (Int × Bool) :=
  cond (cond (cond (decide (0 < b_1)) (decide (a_0 < (IntKind.i64.wrap ((-9223372036854775808) + b_1)))) false) true (cond (decide (b_1 < 0)) (decide ((IntKind.i64.wrap (9223372036854775807 + b_1)) < a_0)) false))
    (some (0, false))
    (some (IntKind.i64.wrap (a_0 - b_1), true))

noncomputable def num_Neg (a_0 : Int) : Option (Int × Bool) :=
  (num_Sub 0 a_0).bind fun (z1 : (Int × Bool)) =>
  some (z1.1, z1.2)

noncomputable def num_Mul (a_0 : Int) (b_1 : Int) : Option (Int × Bool) :=
  cond (b_1 == 0)
    (some (0, true))
    (cond (b_1 == (-1))
      ((num_Neg a_0).bind fun (z1 : (Int × Bool)) =>
      some (z1.1, z1.2))
      ((nz b_1 (IntKind.i64.wrap (Int.tdiv (IntKind.i64.wrap (a_0 * b_1)) b_1))).bind fun (z2 : Int) =>
      cond (z2 != a_0)
        (some (0, false))
        (some (IntKind.i64.wrap (a_0 * b_1), true))))

noncomputable def num_Add (a_0 : Int) (b_1 : Int) : Option (Int × Bool) :=
  cond (cond (cond (decide (0 < b_1)) (decide ((IntKind.i64.wrap (9223372036854775807 - b_1)) < a_0)) false) true (cond (decide (b_1 < 0)) (decide (a_0 < (IntKind.i64.wrap ((-9223372036854775808) - b_1)))) false))
    (some (0, false))
    (some (IntKind.i64.wrap (a_0 + b_1), true))

noncomputable def num_shift (n_0 : Int) (digit_1 : Int) : Option (Int × Bool) :=
  (num_Mul n_0 10).bind fun (z1 : (Int × Bool)) =>
  cond (!z1.2)
    (some (0, false))
    ((num_Add z1.1 (IntKind.i64.wrap (IntKind.u8.wrap (digit_1 - 48)))).bind fun (z2 : (Int × Bool)) =>
    some (z2.1, z2.2))

noncomputable def num_Parse_L1b (s_0 : Bytes) (z3 : (Int × Int)) : Option ((Int × Int) ⊕ (Int ⊕ (Int × Bool))) :=
  cond (decide (z3.2 < (s_0.length : Int)))
    ((idxb s_0 z3.2).bind fun (z4 : Int) =>
    (gd (true && ((decide (z4 < 48)) == false)) (idxb s_0 z3.2) 0).bind fun (z5 : Int) =>
    cond (cond (decide (z4 < 48)) true (decide (57 < z5)))
      (brk (brk (some (0, false))))
      ((idxb s_0 z3.2).bind fun (z6 : Int) =>
      (num_shift z3.1 z6).bind fun (z7 : (Int × Bool)) =>
      cond (!z7.2)
        (brk (brk (some (0, false))))
        (some (.inl (z7.1, IntKind.i64.wrap (z3.2 + 1))))))
    (brk (some (.inl z3.1)))
noncomputable def num_Parse_L1 (s_0 : Bytes) (z3 : (Int × Int)) : Option (Int ⊕ (Int × Bool)) := loopO (num_Parse_L1b s_0) z3

noncomputable def num_Parse (s_0 : Bytes) : Option (Int × Bool) :=
  (gd (true && ((s_0 == ([] : Bytes)) == false)) (idxb s_0 0) 0).bind fun (z1 : Int) =>
  cond (cond (s_0 == ([] : Bytes)) true (cond (z1 == 48) (decide (1 < (s_0.length : Int))) false))
    (some (0, false))
    (both (num_Parse_L1 s_0 (0, 0)) fun (z2 : Int) =>
    some (z2, true))

noncomputable def script_number (s_0 : Bytes) : Option Int :=
  (num_Parse s_0).bind fun (z1 : (Int × Bool)) =>
  cond (!z1.2)
    (some (-1))
    (some z1.1)

noncomputable def strconv_ParseInt (s : Bytes) (b : Int) (n : Int) : Option (Int × Bool) := sParse s b n

noncomputable def internal_stringslite_HasPrefix (s_0 : Bytes) (a_1 : Bytes) : Option Bool :=
  (gd (true && ((decide ((a_1.length : Int) ≤ (s_0.length : Int))) == true)) (sub s_0 0 (a_1.length : Int)) []).bind fun (z1 : Bytes) =>
  lt (cond (decide ((a_1.length : Int) ≤ (s_0.length : Int))) (z1 == a_1) false) fun (z2 : Bool) =>
  some z2

noncomputable def strings_HasPrefix (s_0 : Bytes) (a_1 : Bytes) : Option Bool :=
  (internal_stringslite_HasPrefix s_0 a_1).bind fun (z1 : Bool) =>
  some z1

noncomputable def internal_stringslite_HasSuffix (s_0 : Bytes) (suffix_1 : Bytes) : Option Bool :=
  (gd (true && ((decide ((suffix_1.length : Int) ≤ (s_0.length : Int))) == true)) (sub s_0 (IntKind.i64.wrap ((s_0.length : Int) - (suffix_1.length : Int))) ((s_0).length)) []).bind fun (z1 : Bytes) =>
  lt (cond (decide ((suffix_1.length : Int) ≤ (s_0.length : Int))) (z1 == suffix_1) false) fun (z2 : Bool) =>
  some z2

noncomputable def strings_HasSuffix (s_0 : Bytes) (suffix_1 : Bytes) : Option Bool :=
  (internal_stringslite_HasSuffix s_0 suffix_1).bind fun (z1 : Bool) =>
  some z1

noncomputable def script_within (s_0 : Bytes) (begin_1 : Bytes) (a_2 : Bytes) : Option Bool :=
  (gd (true && ((decide ((IntKind.i64.wrap ((begin_1.length : Int) + (a_2.length : Int))) ≤ (s_0.length : Int))) == true)) (strings_HasPrefix s_0 begin_1) false).bind fun (z1 : Bool) =>
  (gd (true && ((cond (decide ((IntKind.i64.wrap ((begin_1.length : Int) + (a_2.length : Int))) ≤ (s_0.length : Int))) z1 false) == true)) (strings_HasSuffix s_0 a_2) false).bind fun (z2 : Bool) =>
  lt (cond (cond (decide ((IntKind.i64.wrap ((begin_1.length : Int) + (a_2.length : Int))) ≤ (s_0.length : Int))) z1 false) z2 false) fun (z3 : Bool) =>
  some z3

noncomputable def strings_Split (s : Bytes) (sep : Bytes) : Option (List Bytes) := sSplit s sep

noncomputable def script_value (s_0 : Bytes) : Option T_api_Value :=
  (strconv_ParseInt s_0 10 64).bind fun (z2 : (Int × Bool)) =>
  cond (!z2.2)
    (some (⟨1, z2.1, [], []⟩ : T_api_Value))
    (cond (s_0 == ([116, 114, 117, 101] : Bytes))
      (some (⟨2, 1, [], []⟩ : T_api_Value))
      (lt (s_0 == ([102, 97, 108, 115, 101] : Bytes)) fun (z4 : Bool) =>
      cond z4
        (some (⟨2, 0, [], []⟩ : T_api_Value))
        (cond (s_0 == ([123, 125] : Bytes))
          (some (⟨4, 0, [], []⟩ : T_api_Value))
          ((script_within s_0 ([123, 34] : Bytes) ([34, 125] : Bytes)).bind fun (z5 : Bool) =>
          cond z5
            ((sub s_0 2 (IntKind.i64.wrap ((s_0.length : Int) - 2))).bind fun (z6 : Bytes) =>
            (strings_Split z6 ([34, 44, 34] : Bytes)).bind fun (z7 : (List Bytes)) =>
            some (⟨4, 0, [], z7⟩ : T_api_Value))
            ((script_within s_0 ([34] : Bytes) ([34] : Bytes)).bind fun (z9 : Bool) =>
            cond z9
              ((sub s_0 1 (IntKind.i64.wrap ((s_0.length : Int) - 1))).bind fun (z10 : Bytes) =>
              some (⟨3, 0, z10, []⟩ : T_api_Value))
              (some (⟨0, 0, [], []⟩ : T_api_Value)))))))

noncomputable def script_read (s_0 : Bytes) : Option T_api_Event :=
  (strings_SplitN s_0 ([32] : Bytes) 6).bind fun (z2 : (List Bytes)) =>
  (idx z2 0).bind fun (z4 : Bytes) =>
  (script_number z4).bind fun (z5 : Int) =>
  (cond (decide (1 < (z2.length : Int)))
    ((idx z2 1).bind fun (z34 : Bytes) =>
    some z34)
    (some ([] : Bytes))).bind fun (z7 : Bytes) =>
  lt (cond (z7 == ([116, 114, 121] : Bytes)) ((z2.length : Int) == 6) false) fun (z8 : Bool) =>
  cond z8
    ((idx z2 2).bind fun (z9 : Bytes) =>
    (script_number z9).bind fun (z10 : Int) =>
    (idx z2 3).bind fun (z11 : Bytes) =>
    (idx z2 4).bind fun (z12 : Bytes) =>
    (idx z2 5).bind fun (z13 : Bytes) =>
    lt ({ ({ ({ ({ ({ (⟨z5, 0, 0, [], [], [], T_api_Value_zero⟩ : T_api_Event) with Kind := 1 }) with Id := z10 }) with Subject := z11 }) with Object := z12 }) with Name := z13 }) fun (z14 : T_api_Event) =>
    some z14)
    (lt (cond (z7 == ([117, 115, 101] : Bytes)) ((z2.length : Int) == 4) false) fun (z15 : Bool) =>
    cond z15
      ((idx z2 2).bind fun (z16 : Bytes) =>
      (script_number z16).bind fun (z17 : Int) =>
      (idx z2 3).bind fun (z18 : Bytes) =>
      lt ({ ({ ({ (⟨z5, 0, 0, [], [], [], T_api_Value_zero⟩ : T_api_Event) with Kind := 2 }) with Id := z17 }) with Name := z18 }) fun (z19 : T_api_Event) =>
      some z19)
      (lt (cond (z7 == ([101, 110, 100] : Bytes)) ((z2.length : Int) == 3) false) fun (z20 : Bool) =>
      cond z20
        ((idx z2 2).bind fun (z21 : Bytes) =>
        (script_number z21).bind fun (z22 : Int) =>
        lt ({ (⟨z5, 0, 0, [], [], [], T_api_Value_zero⟩ : T_api_Event) with Kind := 3 }) fun (z23 : T_api_Event) =>
        some ({ z23 with Id := z22 }))
        (lt (cond (z7 == ([115, 101, 116] : Bytes)) (decide (4 < (z2.length : Int))) false) fun (z24 : Bool) =>
        cond z24
          ((idx z2 2).bind fun (z25 : Bytes) =>
          (idx z2 3).bind fun (z26 : Bytes) =>
          (sub z2 4 (z2.length)).bind fun (z27 : (List Bytes)) =>
          (strings_Join z27 ([32] : Bytes)).bind fun (z28 : Bytes) =>
          (script_value z28).bind fun (z29 : T_api_Value) =>
          lt ({ ({ ({ ({ (⟨z5, 0, 0, [], [], [], T_api_Value_zero⟩ : T_api_Event) with Kind := 4 }) with Subject := z25 }) with Name := z26 }) with Value := z29 }) fun (z31 : T_api_Event) =>
          some z31)
          (lt (cond (z7 == ([116, 105, 99, 107] : Bytes)) ((z2.length : Int) == 2) false) fun (z32 : Bool) =>
          cond z32
            (lt ({ (⟨z5, 0, 0, [], [], [], T_api_Value_zero⟩ : T_api_Event) with Kind := 5 }) fun (z33 : T_api_Event) =>
            some z33)
            (some (⟨z5, 0, 0, [], [], [], T_api_Value_zero⟩ : T_api_Event))))))

noncomputable def script_Parse (s_0 : Bytes) : Option (T_api_Event × Int) :=
  (script_read s_0).bind fun (z2 : T_api_Event) =>
  (script_Line z2).bind fun (z5 : (Bytes × Int)) =>
  cond (cond (z5.2 != 0) true (z5.1 != s_0))
    (some ((⟨0, 0, 0, [], [], [], T_api_Value_zero⟩ : T_api_Event), 16))
    (some (z2, 0))

noncomputable def strings_Cut (s : Bytes) (sep : Bytes) : Option (Bytes × Bytes × Bool) := sCut s sep

noncomputable def script_Read_L1b  (z2 : (Bytes × (List T_api_Event))) : Option ((Bytes × (List T_api_Event)) ⊕ ((List T_api_Event) ⊕ ((List T_api_Event) × Int))) :=
  cond (z2.1 != ([] : Bytes))
    ((strings_Cut z2.1 ([10] : Bytes)).bind fun (z3 : (Bytes × Bytes × Bool)) =>
    (script_Parse z3.1).bind fun (z5 : (T_api_Event × Int)) =>
    cond (cond (!z3.2.2) true (z5.2 != 0))
      (brk (brk (some ([], 16))))
      ((app 128 z2.2 ([z5.1] : List T_api_Event)).bind fun (z8 : List T_api_Event) =>
      some (.inl (z3.2.1, z8))))
    (brk (some (.inl z2.2)))
noncomputable def script_Read_L1  (z2 : (Bytes × (List T_api_Event))) : Option ((List T_api_Event) ⊕ ((List T_api_Event) × Int)) := loopO (script_Read_L1b ) z2

noncomputable def script_Read (s_0 : Bytes) : Option ((List T_api_Event) × Int) :=
  cond (decide (65536 < (s_0.length : Int)))
    (some ([], 5))
    (both (script_Read_L1  (s_0, ([] : (List T_api_Event)))) fun (z1 : (List T_api_Event)) =>
    cond (decide (256 < (z1.length : Int)))
      (some ([], 3))
      (some (z1, 0)))

noncomputable def law28_alive  : Option Bool :=
  (script_Line (⟨5, 2, 1, [], [], ([114, 101, 97, 100] : Bytes), T_api_Value_zero⟩ : T_api_Event)).bind fun (z1 : (Bytes × Int)) =>
  (script_Parse ([55, 32, 116, 105, 99, 107] : Bytes)).bind fun (z2 : (T_api_Event × Int)) =>
  (script_Read ([55, 32, 116, 105, 99, 107, 10, 56, 32, 116, 105, 99, 107, 10] : Bytes)).bind fun (z5 : ((List T_api_Event) × Int)) =>
  lt (cond (cond (cond (cond (cond (cond (z1.2 == 0) (z1.1 == ([53, 32, 117, 115, 101, 32, 49, 32, 114, 101, 97, 100] : Bytes)) false) (z2.2 == 0) false) (z2.1.At == 7) false) (z2.1.Kind == 5) false) (z5.2 == 0) false) ((z5.1.length : Int) == 2) false) fun (z8 : Bool) =>
  some z8

noncomputable def ref06_head (c_0 : Int) : Option Bool :=
  lt (cond (cond (cond (decide (97 ≤ c_0)) (decide (c_0 ≤ 122)) false) true (cond (decide (65 ≤ c_0)) (decide (c_0 ≤ 90)) false)) true (c_0 == 95)) fun (z1 : Bool) =>
  some z1

noncomputable def ref06_tail (c_0 : Int) : Option Bool :=
  (ref06_head c_0).bind fun (z1 : Bool) =>
  lt (cond z1 true (cond (decide (48 ≤ c_0)) (decide (c_0 ≤ 57)) false)) fun (z2 : Bool) =>
  some z2

noncomputable def ref06_Name_L1b (s_0 : Bytes) (z4 : Int) : Option (Int ⊕ (Unit ⊕ Bool)) :=
  cond (decide (z4 < (s_0.length : Int)))
    ((idxb s_0 z4).bind fun (z5 : Int) =>
    (ref06_tail z5).bind fun (z6 : Bool) =>
    cond (!z6)
      (brk (brk (some false)))
      (some (.inl (IntKind.i64.wrap (z4 + 1)))))
    (brk (some (.inl ())))
noncomputable def ref06_Name_L1 (s_0 : Bytes) (z4 : Int) : Option (Unit ⊕ Bool) := loopO (ref06_Name_L1b s_0) z4

noncomputable def ref06_Name (s_0 : Bytes) : Option Bool :=
  (gd (true && ((cond (s_0 == ([] : Bytes)) true (decide (16 < (s_0.length : Int)))) == false)) (idxb s_0 0) 0).bind fun (z1 : Int) =>
  (gd (true && ((cond (s_0 == ([] : Bytes)) true (decide (16 < (s_0.length : Int)))) == false)) (ref06_head z1) false).bind fun (z2 : Bool) =>
  cond (cond (cond (s_0 == ([] : Bytes)) true (decide (16 < (s_0.length : Int)))) true (!z2))
    (some false)
    (both (ref06_Name_L1 s_0 1) fun (z3 : Unit) =>
    some true)

noncomputable def ref02_bad_L1b (l_0 : (List Bytes)) (z3 : Int) : Option (Int ⊕ (Unit ⊕ Int)) :=
  cond (decide ((IntKind.i64.wrap (z3 + 1)) < (l_0.length : Int)))
    ((idx l_0 z3).bind fun (z4 : Bytes) =>
    (idx l_0 (IntKind.i64.wrap (z3 + 1))).bind fun (z5 : Bytes) =>
    cond (!(less z4 z5))
      (brk (brk (some 2)))
      (some (.inl (IntKind.i64.wrap (z3 + 1)))))
    (brk (some (.inl ())))
noncomputable def ref02_bad_L1 (l_0 : (List Bytes)) (z3 : Int) : Option (Unit ⊕ Int) := loopO (ref02_bad_L1b l_0) z3

noncomputable def ref02_bad_L2b (l_0 : (List Bytes)) (z6 : Int) : Option (Int ⊕ (Unit ⊕ Int)) :=
  cond (decide (z6 < (l_0.length : Int)))
    ((idx l_0 z6).bind fun (z7 : Bytes) =>
    cond (decide (32 < (z7.length : Int)))
      (brk (brk (some 1)))
      (some (.inl (IntKind.i64.wrap (z6 + 1)))))
    (brk (some (.inl ())))
noncomputable def ref02_bad_L2 (l_0 : (List Bytes)) (z6 : Int) : Option (Unit ⊕ Int) := loopO (ref02_bad_L2b l_0) z6

noncomputable def ref02_bad (l_0 : (List Bytes)) : Option Int :=
  both (ref02_bad_L2 l_0 0) fun (z1 : Unit) =>
  both (ref02_bad_L1 l_0 0) fun (z2 : Unit) =>
  some 0

noncomputable def ref02_Check (v_0 : T_api_Value) : Option Int :=
  cond (cond (cond (cond (v_0.Kind != 1) (v_0.Kind != 2) false) (v_0.Kind != 3) false) (v_0.Kind != 4) false)
    (some 12)
    ((ref02_bad v_0.L).bind fun (z2 : Int) =>
    cond (cond (decide (32 < (v_0.S.length : Int))) true (z2 == 1))
      (some 5)
      (cond (decide (8 < (v_0.L.length : Int)))
        (some 3)
        (cond (z2 == 2)
          (some 4)
          (cond (cond (cond (v_0.Kind == 1) (v_0.S == ([] : Bytes)) false) ((v_0.L.length : Int) == 0) false)
            (some 0)
            (cond (cond (cond (cond (v_0.Kind == 2) (cond (v_0.N == 0) true (v_0.N == 1)) false) (v_0.S == ([] : Bytes)) false) ((v_0.L.length : Int) == 0) false)
              (some 0)
              (cond (cond (cond (v_0.Kind == 3) (v_0.N == 0) false) ((v_0.L.length : Int) == 0) false)
                (some 0)
                (cond (cond (cond (v_0.Kind == 4) (v_0.N == 0) false) (v_0.S == ([] : Bytes)) false)
                  (some 0)
                  (some 4))))))))

noncomputable def ref23_empty (v_0 : T_api_Value) : Option Bool :=
  lt (cond (cond (cond (v_0.Kind == 0) (v_0.N == 0) false) (v_0.S == ([] : Bytes)) false) ((v_0.L.length : Int) == 0) false) fun (z2 : Bool) =>
  some z2

noncomputable def ref23_Check (e_0 : T_api_Event) : Option Int :=
  cond (cond (decide (e_0.Kind < 1)) true (decide (5 < e_0.Kind)))
    (some 12)
    (cond (cond (cond (decide (e_0.At < 0)) true (decide (e_0.Id < 0))) true (decide (63 < e_0.Id)))
      (some 4)
      (cond (cond (!(decide (e_0.Kind ≤ 3))) (e_0.Id != 0) false)
        (some 16)
        ((ref06_Name e_0.Subject).bind fun (z2 : Bool) =>
        cond (cond ((cond (e_0.Kind == 1) true (e_0.Kind == 4)) != z2) true (cond (!(cond (e_0.Kind == 1) true (e_0.Kind == 4))) (e_0.Subject != ([] : Bytes)) false))
          (some 16)
          ((ref06_Name e_0.Object).bind fun (z3 : Bool) =>
          cond (cond ((e_0.Kind == 1) != z3) true (cond (!(e_0.Kind == 1)) (e_0.Object != ([] : Bytes)) false))
            (some 16)
            ((ref06_Name e_0.Name).bind fun (z4 : Bool) =>
            cond (cond ((cond (cond (e_0.Kind == 1) true (e_0.Kind == 2)) true (e_0.Kind == 4)) != z4) true (cond (!(cond (cond (e_0.Kind == 1) true (e_0.Kind == 2)) true (e_0.Kind == 4))) (e_0.Name != ([] : Bytes)) false))
              (some 16)
              ((gd (true && ((e_0.Kind == 4) == true)) (ref02_Check e_0.Value) 0).bind fun (z5 : Int) =>
              (gd ((true && ((cond (e_0.Kind == 4) (z5 != 0) false) == false)) && ((!(e_0.Kind == 4)) == true)) (ref23_empty e_0.Value) false).bind fun (z6 : Bool) =>
              cond (cond (cond (e_0.Kind == 4) (z5 != 0) false) true (cond (!(e_0.Kind == 4)) (!z6) false))
                (some 16)
                (some 0)))))))

noncomputable def ref01_Decimal_L1b  (z3 : (Bytes × Int)) : Option ((Bytes × Int) ⊕ Bytes) :=
  cond (z3.2 != 0)
    (cond (decide ((Int.tmod z3.2 10) < 0))
      (lt (IntKind.i64.wrap (0 - (Int.tmod z3.2 10))) fun (d4 : Int) =>
      (cat (toBytes ([IntKind.u8.wrap (IntKind.i64.wrap (48 + d4))] : List Int)) z3.1).bind fun (z5 : Bytes) =>
      some (.inl (z5, IntKind.i64.wrap (Int.tdiv z3.2 10))))
      ((cat (toBytes ([IntKind.u8.wrap (IntKind.i64.wrap (48 + (Int.tmod z3.2 10)))] : List Int)) z3.1).bind fun (z6 : Bytes) =>
      some (.inl (z6, IntKind.i64.wrap (Int.tdiv z3.2 10)))))
    (brk (some z3.1))
noncomputable def ref01_Decimal_L1  (z3 : (Bytes × Int)) : Option Bytes := loopO (ref01_Decimal_L1b ) z3

noncomputable def ref01_Decimal (n_0 : Int) : Option Bytes :=
  cond (n_0 == 0)
    (some ([48] : Bytes))
    ((ref01_Decimal_L1  (([] : Bytes), n_0)).bind fun (z1 : Bytes) =>
    cond (decide (n_0 < 0))
      ((cat ([45] : Bytes) z1).bind fun (z2 : Bytes) =>
      some z2)
      (some z1))

noncomputable def ref06_Plain_L1b (s_0 : Bytes) (z2 : Int) : Option (Int ⊕ (Unit ⊕ Bool)) :=
  cond (decide (z2 < (s_0.length : Int)))
    ((idxb s_0 z2).bind fun (z3 : Int) =>
    (gd (true && ((z3 == 34) == false)) (idxb s_0 z2) 0).bind fun (z4 : Int) =>
    cond (cond (z3 == 34) true (z4 == 10))
      (brk (brk (some false)))
      (some (.inl (IntKind.i64.wrap (z2 + 1)))))
    (brk (some (.inl ())))
noncomputable def ref06_Plain_L1 (s_0 : Bytes) (z2 : Int) : Option (Unit ⊕ Bool) := loopO (ref06_Plain_L1b s_0) z2

noncomputable def ref06_Plain (s_0 : Bytes) : Option Bool :=
  cond (decide (32 < (s_0.length : Int)))
    (some false)
    (both (ref06_Plain_L1 s_0 0) fun (z1 : Unit) =>
    some true)

noncomputable def ref28_value_L1b (v_0 : T_api_Value) (z8 : (Bytes × Int)) : Option ((Bytes × Int) ⊕ (Bytes ⊕ (Bytes × Bool))) :=
  cond (decide (z8.2 < (v_0.L.length : Int)))
    ((idx v_0.L z8.2).bind fun (z9 : Bytes) =>
    (ref06_Plain z9).bind fun (z10 : Bool) =>
    cond (!z10)
      (brk (brk (some (([] : Bytes), false))))
      ((cond (decide (0 < z8.2))
        ((cat z8.1 ([44] : Bytes)).bind fun (z16 : Bytes) =>
        some z16)
        (some z8.1)).bind fun (z11 : Bytes) =>
      (cat z11 ([34] : Bytes)).bind fun (z12 : Bytes) =>
      (idx v_0.L z8.2).bind fun (z13 : Bytes) =>
      (cat z12 z13).bind fun (z14 : Bytes) =>
      (cat z14 ([34] : Bytes)).bind fun (z15 : Bytes) =>
      some (.inl (z15, IntKind.i64.wrap (z8.2 + 1)))))
    (brk (some (.inl z8.1)))
noncomputable def ref28_value_L1 (v_0 : T_api_Value) (z8 : (Bytes × Int)) : Option (Bytes ⊕ (Bytes × Bool)) := loopO (ref28_value_L1b v_0) z8

noncomputable def ref28_value (v_0 : T_api_Value) : Option (Bytes × Bool) :=
  cond (v_0.Kind == 1)
    ((ref01_Decimal v_0.N).bind fun (z2 : Bytes) =>
    some (z2, true))
    (cond (cond (v_0.Kind == 2) (v_0.N == 1) false)
      (some (([116, 114, 117, 101] : Bytes), true))
      (cond (v_0.Kind == 2)
        (some (([102, 97, 108, 115, 101] : Bytes), true))
        (cond (v_0.Kind == 3)
          ((cat ([34] : Bytes) v_0.S).bind fun (z3 : Bytes) =>
          (cat z3 ([34] : Bytes)).bind fun (z4 : Bytes) =>
          (ref06_Plain v_0.S).bind fun (z5 : Bool) =>
          some (z4, z5))
          (both (ref28_value_L1 v_0 (([123] : Bytes), 0)) fun (z6 : Bytes) =>
          (cat z6 ([125] : Bytes)).bind fun (z7 : Bytes) =>
          some (z7, true)))))

noncomputable def ref28_Line (e_0 : T_api_Event) : Option (Bytes × Int) :=
  (ref23_Check e_0).bind fun (z2 : Int) =>
  cond (z2 != 0)
    (some (([] : Bytes), z2))
    ((ref01_Decimal e_0.At).bind fun (z3 : Bytes) =>
    (cat z3 ([32] : Bytes)).bind fun (z4 : Bytes) =>
    (ref01_Decimal e_0.Id).bind fun (z5 : Bytes) =>
    cond (e_0.Kind == 1)
      ((cat z4 ([116, 114, 121, 32] : Bytes)).bind fun (z6 : Bytes) =>
      (cat z6 z5).bind fun (z7 : Bytes) =>
      (cat z7 ([32] : Bytes)).bind fun (z8 : Bytes) =>
      (cat z8 e_0.Subject).bind fun (z9 : Bytes) =>
      (cat z9 ([32] : Bytes)).bind fun (z10 : Bytes) =>
      (cat z10 e_0.Object).bind fun (z11 : Bytes) =>
      (cat z11 ([32] : Bytes)).bind fun (z12 : Bytes) =>
      (cat z12 e_0.Name).bind fun (z13 : Bytes) =>
      some (z13, 0))
      (cond (e_0.Kind == 2)
        ((cat z4 ([117, 115, 101, 32] : Bytes)).bind fun (z14 : Bytes) =>
        (cat z14 z5).bind fun (z15 : Bytes) =>
        (cat z15 ([32] : Bytes)).bind fun (z16 : Bytes) =>
        (cat z16 e_0.Name).bind fun (z17 : Bytes) =>
        some (z17, 0))
        (cond (e_0.Kind == 3)
          ((cat z4 ([101, 110, 100, 32] : Bytes)).bind fun (z18 : Bytes) =>
          (cat z18 z5).bind fun (z19 : Bytes) =>
          some (z19, 0))
          (cond (e_0.Kind == 5)
            ((cat z4 ([116, 105, 99, 107] : Bytes)).bind fun (z20 : Bytes) =>
            some (z20, 0))
            ((ref28_value e_0.Value).bind fun (z21 : (Bytes × Bool)) =>
            cond (!z21.2)
              (some (([] : Bytes), 16))
              ((cat z4 ([115, 101, 116, 32] : Bytes)).bind fun (z22 : Bytes) =>
              (cat z22 e_0.Subject).bind fun (z23 : Bytes) =>
              (cat z23 ([32] : Bytes)).bind fun (z24 : Bytes) =>
              (cat z24 e_0.Name).bind fun (z25 : Bytes) =>
              (cat z25 ([32] : Bytes)).bind fun (z26 : Bytes) =>
              (cat z26 z21.1).bind fun (z27 : Bytes) =>
              some (z27, 0)))))))

noncomputable def strings_Builder_copyCheck (x : Bytes) : Option Bytes := some x

noncomputable def strings_Builder_WriteString (b_0 : Bytes) (s_1 : Bytes) : Option (Int × Bool × Bytes) :=
  (strings_Builder_copyCheck b_0).bind fun (z1 : Bytes) =>
  (app 1 z1 s_1).bind fun (z7 : Bytes) =>
  some ((s_1.length : Int), false, z7)

noncomputable def strings_Builder_String (b_0 : Bytes) : Option Bytes :=
  some b_0

noncomputable def script_All_L1b (l_0 : (List T_api_Event)) (z5 : (Int × Bytes)) : Option ((Int × Bytes) ⊕ (Bytes ⊕ (Bytes × Int))) :=
  cond (decide (z5.1 < (l_0.length : Int)))
    ((idx l_0 z5.1).bind fun (z6 : T_api_Event) =>
    (script_Line z6).bind fun (z8 : (Bytes × Int)) =>
    cond (z8.2 != 0)
      (brk (brk (some (([] : Bytes), z8.2))))
      ((cat z8.1 ([10] : Bytes)).bind fun (z9 : Bytes) =>
      (strings_Builder_WriteString z5.2 z9).bind fun (z10 : (Int × Bool × Bytes)) =>
      some (.inl (IntKind.i64.wrap (z5.1 + 1), z10.2.2))))
    (brk (some (.inl z5.2)))
noncomputable def script_All_L1 (l_0 : (List T_api_Event)) (z5 : (Int × Bytes)) : Option (Bytes ⊕ (Bytes × Int)) := loopO (script_All_L1b l_0) z5

noncomputable def script_All (l_0 : (List T_api_Event)) : Option (Bytes × Int) :=
  both (script_All_L1 l_0 (0, ([] : Bytes))) fun (z2 : Bytes) =>
  (strings_Builder_String z2).bind fun (z3 : Bytes) =>
  some (z3, 0)

noncomputable def plain_Texts_L1b (a_0 : (List Bytes)) (b_1 : (List Bytes)) (z2 : Int) : Option (Int ⊕ (Unit ⊕ Bool)) :=
  cond (decide (z2 < (a_0.length : Int)))
    ((idx a_0 z2).bind fun (z3 : Bytes) =>
    (idx b_1 z2).bind fun (z4 : Bytes) =>
    cond (z3 != z4)
      (brk (brk (some false)))
      (some (.inl (IntKind.i64.wrap (z2 + 1)))))
    (brk (some (.inl ())))
noncomputable def plain_Texts_L1 (a_0 : (List Bytes)) (b_1 : (List Bytes)) (z2 : Int) : Option (Unit ⊕ Bool) := loopO (plain_Texts_L1b a_0 b_1) z2

noncomputable def plain_Texts (a_0 : (List Bytes)) (b_1 : (List Bytes)) : Option Bool :=
  cond ((a_0.length : Int) != (b_1.length : Int))
    (some false)
    (both (plain_Texts_L1 a_0 b_1 0) fun (z1 : Unit) =>
    some true)

noncomputable def plain_Value (a_0 : T_api_Value) (b_1 : T_api_Value) : Option Bool :=
  (gd (true && ((cond (cond (a_0.Kind == b_1.Kind) (a_0.N == b_1.N) false) (a_0.S == b_1.S) false) == true)) (plain_Texts a_0.L b_1.L) false).bind fun (z3 : Bool) =>
  lt (cond (cond (cond (a_0.Kind == b_1.Kind) (a_0.N == b_1.N) false) (a_0.S == b_1.S) false) z3 false) fun (z4 : Bool) =>
  some z4

noncomputable def plain_Event (a_0 : T_api_Event) (b_1 : T_api_Event) : Option Bool :=
  (gd (true && ((cond (cond (cond (cond (cond (a_0.At == b_1.At) (a_0.Kind == b_1.Kind) false) (a_0.Id == b_1.Id) false) (a_0.Subject == b_1.Subject) false) (a_0.Object == b_1.Object) false) (a_0.Name == b_1.Name) false) == true)) (plain_Value a_0.Value b_1.Value) false).bind fun (z3 : Bool) =>
  lt (cond (cond (cond (cond (cond (cond (a_0.At == b_1.At) (a_0.Kind == b_1.Kind) false) (a_0.Id == b_1.Id) false) (a_0.Subject == b_1.Subject) false) (a_0.Object == b_1.Object) false) (a_0.Name == b_1.Name) false) z3 false) fun (z4 : Bool) =>
  some z4

noncomputable def plain_Events_L1b (a_0 : (List T_api_Event)) (b_1 : (List T_api_Event)) (z2 : Int) : Option (Int ⊕ (Unit ⊕ Bool)) :=
  cond (decide (z2 < (a_0.length : Int)))
    ((idx a_0 z2).bind fun (z3 : T_api_Event) =>
    (idx b_1 z2).bind fun (z4 : T_api_Event) =>
    (plain_Event z3 z4).bind fun (z5 : Bool) =>
    cond (!z5)
      (brk (brk (some false)))
      (some (.inl (IntKind.i64.wrap (z2 + 1)))))
    (brk (some (.inl ())))
noncomputable def plain_Events_L1 (a_0 : (List T_api_Event)) (b_1 : (List T_api_Event)) (z2 : Int) : Option (Unit ⊕ Bool) := loopO (plain_Events_L1b a_0 b_1) z2

noncomputable def plain_Events (a_0 : (List T_api_Event)) (b_1 : (List T_api_Event)) : Option Bool :=
  cond ((a_0.length : Int) != (b_1.length : Int))
    (some false)
    (both (plain_Events_L1 a_0 b_1 0) fun (z1 : Unit) =>
    some true)

noncomputable def law28_ScriptBack_L1b (z3 : (List T_api_Event)) (z10 : (Bytes × Int)) : Option ((Bytes × Int) ⊕ (Bytes ⊕ Bool)) :=
  cond (decide (z10.2 < (z3.length : Int)))
    ((idx z3 z10.2).bind fun (z11 : T_api_Event) =>
    (ref28_Line z11).bind fun (z12 : (Bytes × Int)) =>
    cond (z12.2 != 0)
      ((script_All z3).bind fun (z13 : (Bytes × Int)) =>
      lt (cond (z13.1 == ([] : Bytes)) (z13.2 == z12.2) false) fun (z14 : Bool) =>
      brk (brk (some z14)))
      ((script_Parse z12.1).bind fun (z15 : (T_api_Event × Int)) =>
      (gd (true && ((z15.2 != 0) == false)) (idx z3 z10.2) T_api_Event_zero).bind fun (z18 : T_api_Event) =>
      (gd (true && ((z15.2 != 0) == false)) (plain_Event z15.1 z18) false).bind fun (z19 : Bool) =>
      cond (cond (z15.2 != 0) true (!z19))
        (brk (brk (some false)))
        ((cat z10.1 z12.1).bind fun (z20 : Bytes) =>
        (cat z20 ([10] : Bytes)).bind fun (z21 : Bytes) =>
        some (.inl (z21, IntKind.i64.wrap (z10.2 + 1))))))
    (brk (some (.inl z10.1)))
noncomputable def law28_ScriptBack_L1 (z3 : (List T_api_Event)) (z10 : (Bytes × Int)) : Option (Bytes ⊕ Bool) := loopO (law28_ScriptBack_L1b z3) z10

noncomputable def law28_ScriptBack (l_0 : (List T_api_Event)) : Option Bool :=
  (law28_alive ).bind fun (z1 : Bool) =>
  cond (!z1)
    (some false)
    ((cond (decide (300 < (l_0.length : Int)))
      ((sub l_0 0 300).bind fun (z22 : (List T_api_Event)) =>
      some z22)
      (some l_0)).bind fun (z3 : (List T_api_Event)) =>
    both (law28_ScriptBack_L1 z3 (([] : Bytes), 0)) fun (z4 : Bytes) =>
    (script_All z3).bind fun (z5 : (Bytes × Int)) =>
    (script_Read z5.1).bind fun (z6 : ((List T_api_Event) × Int)) =>
    cond (cond (z5.2 != 0) true (z5.1 != z4))
      (some false)
      (cond (decide (65536 < (z5.1.length : Int)))
        (some (z6.2 == 5))
        (cond (decide (256 < (z3.length : Int)))
          (some (z6.2 == 3))
          ((gd (true && ((z6.2 == 0) == true)) (plain_Events z6.1 z3) false).bind fun (z9 : Bool) =>
          some (cond (z6.2 == 0) z9 false)))))

end Go.Proofs.YtielgloflidhnaaGreatDoor.M
