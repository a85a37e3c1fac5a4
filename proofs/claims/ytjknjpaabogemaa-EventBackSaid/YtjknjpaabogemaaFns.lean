/- The functions, as plain Lean: written by gen2.py. -/
import Derived.Test.YtjknjpaabogemaaEng
namespace Go.Proofs.Ytjknjpaabogemaa.M
open Go.Eng Go
set_option linter.unusedVariables false

structure T_api_Value where
  Kind : Int
  N : Int
  S : Bytes
  L : (List Bytes)
def T_api_Value_tup (x : T_api_Value) : Int × Int × Bytes × (List Bytes) × Unit := (x.Kind, x.N, x.S, x.L, ())
def T_api_Value_rep0 := (Rep.cons (Rep.int .i64) (Rep.cons (Rep.int .i64) (Rep.cons (Rep.str) (Rep.cons ((Rep.str).slice) Rep.nil0))))
def T_api_Value_rep : Rep T_api_Value := T_api_Value_rep0.iso T_api_Value_tup
def T_api_Value_zero : T_api_Value := ⟨0, 0, [], []⟩
instance : Inhabited T_api_Value := ⟨T_api_Value_zero⟩
def T_api_Value_tupo (x : T_api_Value) : Int × Int × Bytes × Unit × Unit := (x.Kind, x.N, x.S, (), ())
def T_api_Value_repo0 (v0 : Value) := (Rep.cons (Rep.int .i64) (Rep.cons (Rep.int .i64) (Rep.cons (Rep.str) (Rep.cons ((Rep.isv v0)) Rep.nil0))))
def T_api_Value_repo (v0 : Value) : Rep T_api_Value := (T_api_Value_repo0 v0).iso T_api_Value_tupo

structure T_api_Event where
  At : Int
  Kind : Int
  Id : Int
  Subject : Bytes
  Object : Bytes
  Name : Bytes
  Value : T_api_Value
def T_api_Event_tup (x : T_api_Event) : Int × Int × Int × Bytes × Bytes × Bytes × T_api_Value × Unit := (x.At, x.Kind, x.Id, x.Subject, x.Object, x.Name, x.Value, ())
def T_api_Event_rep0 := (Rep.cons (Rep.int .i64) (Rep.cons (Rep.int .i64) (Rep.cons (Rep.int .i64) (Rep.cons (Rep.str) (Rep.cons (Rep.str) (Rep.cons (Rep.str) (Rep.cons (T_api_Value_rep) Rep.nil0)))))))
def T_api_Event_rep : Rep T_api_Event := T_api_Event_rep0.iso T_api_Event_tup
def T_api_Event_zero : T_api_Event := ⟨0, 0, 0, [], [], [], T_api_Value_zero⟩
instance : Inhabited T_api_Event := ⟨T_api_Event_zero⟩

structure T_octet_Out where
  b : (List Int)
  err : Int
def T_octet_Out_tup (x : T_octet_Out) : (List Int) × Int × Unit := (x.b, x.err, ())
def T_octet_Out_rep0 := (Rep.cons ((Rep.int .u8).slice) (Rep.cons (Rep.int .i64) Rep.nil0))
def T_octet_Out_rep : Rep T_octet_Out := T_octet_Out_rep0.iso T_octet_Out_tup
def T_octet_Out_zero : T_octet_Out := ⟨[], 0⟩
instance : Inhabited T_octet_Out := ⟨T_octet_Out_zero⟩
def T_octet_Out_tupo (x : T_octet_Out) : Unit × Int × Unit := ((), x.err, ())
def T_octet_Out_repo0 (v0 : Value) := (Rep.cons ((Rep.isv v0)) (Rep.cons (Rep.int .i64) Rep.nil0))
def T_octet_Out_repo (v0 : Value) : Rep T_octet_Out := (T_octet_Out_repo0 v0).iso T_octet_Out_tupo

structure T_octet_In where
  b : (List Int)
  made : Bool
  err : Int
def T_octet_In_tup (x : T_octet_In) : (List Int) × Bool × Int × Unit := (x.b, x.made, x.err, ())
def T_octet_In_rep0 := (Rep.cons ((Rep.int .u8).slice) (Rep.cons (Rep.bool) (Rep.cons (Rep.int .i64) Rep.nil0)))
def T_octet_In_rep : Rep T_octet_In := T_octet_In_rep0.iso T_octet_In_tup
def T_octet_In_zero : T_octet_In := ⟨[], false, 0⟩
instance : Inhabited T_octet_In := ⟨T_octet_In_zero⟩

structure T_ref04_Reader where
  B : (List Int)
  At : Int
  Bad : Bool
def T_ref04_Reader_tup (x : T_ref04_Reader) : (List Int) × Int × Bool × Unit := (x.B, x.At, x.Bad, ())
def T_ref04_Reader_rep0 := (Rep.cons ((Rep.int .u8).slice) (Rep.cons (Rep.int .i64) (Rep.cons (Rep.bool) Rep.nil0)))
def T_ref04_Reader_rep : Rep T_ref04_Reader := T_ref04_Reader_rep0.iso T_ref04_Reader_tup
def T_ref04_Reader_zero : T_ref04_Reader := ⟨[], 0, false⟩
instance : Inhabited T_ref04_Reader := ⟨T_ref04_Reader_zero⟩

noncomputable def law23_tick (a_0 : Int) : Option T_api_Event :=
  some (⟨a_0, 5, 0, [], [], [], T_api_Value_zero⟩ : T_api_Event)

noncomputable def lex_begins (c_0 : Int) : Option Bool :=
  lt (cond (cond (cond (decide (97 ≤ c_0)) (decide (c_0 ≤ 122)) false) true (cond (decide (65 ≤ c_0)) (decide (c_0 ≤ 90)) false)) true (c_0 == 95)) fun (z1 : Bool) =>
  some z1

noncomputable def lex_digit (c_0 : Int) : Option Bool :=
  lt (cond (decide (48 ≤ c_0)) (decide (c_0 ≤ 57)) false) fun (z1 : Bool) =>
  some z1

noncomputable def lex_run_L1b (s_0 : Bytes) (z2 : Int) : Option (Int ⊕ Int) :=
  (gd (true && ((decide (z2 < (s_0.length : Int))) == true)) (idxb s_0 z2) 0).bind fun (z3 : Int) =>
  (gd (true && ((decide (z2 < (s_0.length : Int))) == true)) (lex_begins z3) false).bind fun (z4 : Bool) =>
  (gd ((true && ((decide (z2 < (s_0.length : Int))) == true)) && (z4 == false)) (idxb s_0 z2) 0).bind fun (z5 : Int) =>
  (gd ((true && ((decide (z2 < (s_0.length : Int))) == true)) && (z4 == false)) (lex_digit z5) false).bind fun (z6 : Bool) =>
  cond (cond (decide (z2 < (s_0.length : Int))) (cond z4 true z6) false)
    (some (.inl (IntKind.i64.wrap (z2 + 1))))
    (brk (some z2))
noncomputable def lex_run_L1 (s_0 : Bytes) (z2 : Int) : Option Int := loopO (lex_run_L1b s_0) z2

noncomputable def lex_run (s_0 : Bytes) : Option Int :=
  (lex_run_L1 s_0 0).bind fun (z1 : Int) =>
  some z1

noncomputable def lex_Name (s_0 : Bytes) : Option Bool :=
  (gd (true && ((cond (s_0 != ([] : Bytes)) (decide ((s_0.length : Int) ≤ 16)) false) == true)) (idxb s_0 0) 0).bind fun (z1 : Int) =>
  (gd (true && ((cond (s_0 != ([] : Bytes)) (decide ((s_0.length : Int) ≤ 16)) false) == true)) (lex_begins z1) false).bind fun (z2 : Bool) =>
  (gd (true && ((cond (cond (s_0 != ([] : Bytes)) (decide ((s_0.length : Int) ≤ 16)) false) z2 false) == true)) (lex_run s_0) 0).bind fun (z3 : Int) =>
  lt (cond (cond (cond (s_0 != ([] : Bytes)) (decide ((s_0.length : Int) ≤ 16)) false) z2 false) (z3 == (s_0.length : Int)) false) fun (z4 : Bool) =>
  some z4

noncomputable def value_long (s_0 : Bytes) : Option Bool :=
  some (decide (32 < (s_0.length : Int)))

noncomputable def slices_IndexFunc_string_string_v0_L1b (s_0 : (List Bytes)) (z2 : Int) : Option (Int ⊕ (Unit ⊕ Int)) :=
  cond (decide (z2 < (s_0.length : Int)))
    ((idx s_0 z2).bind fun (z3 : Bytes) =>
    (value_long z3).bind fun (z4 : Bool) =>
    cond z4
      (brk (brk (some z2)))
      (some (.inl (IntKind.i64.wrap (z2 + 1)))))
    (brk (some (.inl ())))
noncomputable def slices_IndexFunc_string_string_v0_L1 (s_0 : (List Bytes)) (z2 : Int) : Option (Unit ⊕ Int) := loopO (slices_IndexFunc_string_string_v0_L1b s_0) z2

noncomputable def slices_IndexFunc_string_string_v0 (s_0 : (List Bytes)) : Option Int :=
  both (slices_IndexFunc_string_string_v0_L1 s_0 0) fun (z1 : Unit) =>
  some (-1)

noncomputable def slices_ContainsFunc_string_string_v0 (s_0 : (List Bytes)) : Option Bool :=
  (slices_IndexFunc_string_string_v0 s_0).bind fun (z1 : Int) =>
  some (decide (0 ≤ z1))

noncomputable def value_rises_L1b (l_0 : (List Bytes)) (z2 : Int) : Option (Int ⊕ (Unit ⊕ Bool)) :=
  cond (decide (z2 < (l_0.length : Int)))
    ((gd (true && ((decide (0 < z2)) == true)) (idx l_0 (IntKind.i64.wrap (z2 - 1))) []).bind fun (z3 : Bytes) =>
    (gd (true && ((decide (0 < z2)) == true)) (idx l_0 z2) []).bind fun (z4 : Bytes) =>
    cond (cond (decide (0 < z2)) (!(less z3 z4)) false)
      (brk (brk (some false)))
      (some (.inl (IntKind.i64.wrap (z2 + 1)))))
    (brk (some (.inl ())))
noncomputable def value_rises_L1 (l_0 : (List Bytes)) (z2 : Int) : Option (Unit ⊕ Bool) := loopO (value_rises_L1b l_0) z2

noncomputable def value_rises (l_0 : (List Bytes)) : Option Bool :=
  both (value_rises_L1 l_0 0) fun (z1 : Unit) =>
  some true

noncomputable def value_fits (v_0 : T_api_Value) : Option Bool :=
  cond (v_0.Kind == 1)
    (lt (cond (v_0.S == ([] : Bytes)) ((v_0.L.length : Int) == 0) false) fun (z2 : Bool) =>
    some z2)
    (cond (v_0.Kind == 2)
      (lt (cond (cond (cond (v_0.N == 0) true (v_0.N == 1)) (v_0.S == ([] : Bytes)) false) ((v_0.L.length : Int) == 0) false) fun (z3 : Bool) =>
      some z3)
      (cond (v_0.Kind == 3)
        (lt (cond (v_0.N == 0) ((v_0.L.length : Int) == 0) false) fun (z4 : Bool) =>
        some z4)
        ((gd (true && ((cond (v_0.N == 0) (v_0.S == ([] : Bytes)) false) == true)) (value_rises v_0.L) false).bind fun (z5 : Bool) =>
        lt (cond (cond (v_0.N == 0) (v_0.S == ([] : Bytes)) false) z5 false) fun (z6 : Bool) =>
        some z6)))

noncomputable def value_Check (v_0 : T_api_Value) : Option Int :=
  lt (cond (decide (v_0.Kind < 1)) true (decide (4 < v_0.Kind))) fun (z2 : Bool) =>
  cond z2
    (some 12)
    ((value_long v_0.S).bind fun (z3 : Bool) =>
    (gd (true && (z3 == false)) (slices_ContainsFunc_string_string_v0 v_0.L) false).bind fun (z4 : Bool) =>
    cond (cond z3 true z4)
      (some 5)
      (cond (decide (8 < (v_0.L.length : Int)))
        (some 3)
        ((value_fits v_0).bind fun (z5 : Bool) =>
        cond (!z5)
          (some 4)
          (some 0))))

noncomputable def cmp_isNaN_int (x_0 : Int) : Option Bool :=
  some (x_0 != x_0)

noncomputable def cmp_Compare_int (x_0 : Int) (y_1 : Int) : Option Int :=
  (cmp_isNaN_int x_0).bind fun (z1 : Bool) =>
  (cmp_isNaN_int y_1).bind fun (z2 : Bool) =>
  cond z1
    (cond z2
      (some 0)
      (some (-1)))
    (cond z2
      (some 1)
      (cond (decide (x_0 < y_1))
        (some (-1))
        (cond (decide (y_1 < x_0))
          (some 1)
          (some 0))))

noncomputable def cmp_isNaN_int64 (x_0 : Int) : Option Bool :=
  some (x_0 != x_0)

noncomputable def cmp_Compare_int64 (x_0 : Int) (y_1 : Int) : Option Int :=
  (cmp_isNaN_int64 x_0).bind fun (z1 : Bool) =>
  (cmp_isNaN_int64 y_1).bind fun (z2 : Bool) =>
  cond z1
    (cond z2
      (some 0)
      (some (-1)))
    (cond z2
      (some 1)
      (cond (decide (x_0 < y_1))
        (some (-1))
        (cond (decide (y_1 < x_0))
          (some 1)
          (some 0))))

noncomputable def cmp_isNaN_string (x_0 : Bytes) : Option Bool :=
  some (x_0 != x_0)

noncomputable def cmp_Compare_string (x_0 : Bytes) (y_1 : Bytes) : Option Int :=
  (cmp_isNaN_string x_0).bind fun (z1 : Bool) =>
  (cmp_isNaN_string y_1).bind fun (z2 : Bool) =>
  cond z1
    (cond z2
      (some 0)
      (some (-1)))
    (cond z2
      (some 1)
      (cond (less x_0 y_1)
        (some (-1))
        (cond (!(less x_0 y_1 || x_0 == y_1))
          (some 1)
          (some 0))))

noncomputable def slices_Compare_string_string_L1b (s1_0 : (List Bytes)) (s2_1 : (List Bytes)) (z2 : Int) : Option (Int ⊕ (Unit ⊕ Int)) :=
  cond (decide (z2 < (s1_0.length : Int)))
    ((idx s1_0 z2).bind fun (z3 : Bytes) =>
    cond (decide ((s2_1.length : Int) ≤ z2))
      (brk (brk (some 1)))
      ((idx s2_1 z2).bind fun (z4 : Bytes) =>
      (cmp_Compare_string z3 z4).bind fun (z5 : Int) =>
      cond (z5 != 0)
        (brk (brk (some z5)))
        (some (.inl (IntKind.i64.wrap (z2 + 1))))))
    (brk (some (.inl ())))
noncomputable def slices_Compare_string_string_L1 (s1_0 : (List Bytes)) (s2_1 : (List Bytes)) (z2 : Int) : Option (Unit ⊕ Int) := loopO (slices_Compare_string_string_L1b s1_0 s2_1) z2

noncomputable def slices_Compare_string_string (s1_0 : (List Bytes)) (s2_1 : (List Bytes)) : Option Int :=
  both (slices_Compare_string_string_L1 s1_0 s2_1 0) fun (z1 : Unit) =>
  cond (decide ((s1_0.length : Int) < (s2_1.length : Int)))
    (some (-1))
    (some 0)

noncomputable def cmp_Or_int_L1b (vals_0 : (List Int)) (z2 : Int) : Option (Int ⊕ (Unit ⊕ Int)) :=
  cond (decide (z2 < (vals_0.length : Int)))
    ((idx vals_0 z2).bind fun (z3 : Int) =>
    cond (z3 != 0)
      (brk (brk (some z3)))
      (some (.inl (IntKind.i64.wrap (z2 + 1)))))
    (brk (some (.inl ())))
noncomputable def cmp_Or_int_L1 (vals_0 : (List Int)) (z2 : Int) : Option (Unit ⊕ Int) := loopO (cmp_Or_int_L1b vals_0) z2

noncomputable def cmp_Or_int (vals_0 : (List Int)) : Option Int :=
  both (cmp_Or_int_L1 vals_0 0) fun (z1 : Unit) =>
  some 0

noncomputable def value_Cmp (a_0 : T_api_Value) (b_1 : T_api_Value) : Option Int :=
  (cmp_Compare_int a_0.Kind b_1.Kind).bind fun (z3 : Int) =>
  (cmp_Compare_int64 a_0.N b_1.N).bind fun (z4 : Int) =>
  (cmp_Compare_string a_0.S b_1.S).bind fun (z5 : Int) =>
  (slices_Compare_string_string a_0.L b_1.L).bind fun (z6 : Int) =>
  (cmp_Or_int ([z3, z4, z5, z6] : List Int)).bind fun (z7 : Int) =>
  some z7

noncomputable def value_Same (a_0 : T_api_Value) (b_1 : T_api_Value) : Option Bool :=
  (value_Cmp a_0 b_1).bind fun (z3 : Int) =>
  some (z3 == 0)

noncomputable def event_fits (e_0 : T_api_Event) : Option Bool :=
  cond (cond (cond (e_0.Kind == 4) true (e_0.Kind == 5)) (e_0.Id != 0) false)
    (some false)
    (cond (e_0.Kind == 4)
      ((lex_Name e_0.Subject).bind fun (z2 : Bool) =>
      (gd (true && ((cond z2 (e_0.Object == ([] : Bytes)) false) == true)) (lex_Name e_0.Name) false).bind fun (z3 : Bool) =>
      (gd (true && ((cond (cond z2 (e_0.Object == ([] : Bytes)) false) z3 false) == true)) (value_Check e_0.Value) 0).bind fun (z4 : Int) =>
      lt (cond (cond (cond z2 (e_0.Object == ([] : Bytes)) false) z3 false) (z4 == 0) false) fun (z5 : Bool) =>
      some z5)
      ((value_Same e_0.Value (⟨0, 0, [], []⟩ : T_api_Value)).bind fun (z6 : Bool) =>
      cond (!z6)
        (some false)
        (cond (e_0.Kind == 1)
          ((lex_Name e_0.Subject).bind fun (z7 : Bool) =>
          (gd (true && (z7 == true)) (lex_Name e_0.Object) false).bind fun (z8 : Bool) =>
          (gd (true && ((cond z7 z8 false) == true)) (lex_Name e_0.Name) false).bind fun (z9 : Bool) =>
          some (cond (cond z7 z8 false) z9 false))
          (cond (e_0.Kind == 2)
            ((gd (true && ((cond (e_0.Subject == ([] : Bytes)) (e_0.Object == ([] : Bytes)) false) == true)) (lex_Name e_0.Name) false).bind fun (z10 : Bool) =>
            lt (cond (cond (e_0.Subject == ([] : Bytes)) (e_0.Object == ([] : Bytes)) false) z10 false) fun (z11 : Bool) =>
            some z11)
            (lt (cond (cond (e_0.Subject == ([] : Bytes)) (e_0.Object == ([] : Bytes)) false) (e_0.Name == ([] : Bytes)) false) fun (z12 : Bool) =>
            some z12)))))

noncomputable def event_Check (e_0 : T_api_Event) : Option Int :=
  lt (cond (decide (e_0.Kind < 1)) true (decide (5 < e_0.Kind))) fun (z2 : Bool) =>
  cond z2
    (some 12)
    (lt (cond (cond (decide (e_0.At < 0)) true (decide (e_0.Id < 0))) true (decide (64 ≤ e_0.Id))) fun (z3 : Bool) =>
    cond z3
      (some 4)
      ((event_fits e_0).bind fun (z4 : Bool) =>
      cond (!z4)
        (some 16)
        (some 0)))

noncomputable def octet_Out_open (w_0 : T_octet_Out) : Option Bool :=
  some (cond true (w_0.err == 0) false)

noncomputable def octet_Out_Int_L1b (n_1 : Int) (z4 : (Int × T_octet_Out)) : Option ((Int × T_octet_Out) ⊕ T_octet_Out) :=
  cond (decide (z4.1 < 8))
    ((shrF .u64 (IntKind.u64.wrap n_1) (IntKind.i64.wrap (8 * (IntKind.i64.wrap (7 - z4.1))))).bind fun (z6 : Int) =>
    (app 1 z4.2.b ([IntKind.u8.wrap z6] : List Int)).bind fun (z7 : List Int) =>
    some (.inl (IntKind.i64.wrap (z4.1 + 1), { z4.2 with b := z7 })))
    (brk (some z4.2))
noncomputable def octet_Out_Int_L1 (n_1 : Int) (z4 : (Int × T_octet_Out)) : Option T_octet_Out := loopO (octet_Out_Int_L1b n_1) z4

noncomputable def octet_Out_Int (w_0 : T_octet_Out) (n_1 : Int) : Option T_octet_Out :=
  (octet_Out_open w_0).bind fun (z1 : Bool) =>
  cond (!z1)
    (some w_0)
    ((octet_Out_Int_L1 n_1 (0, w_0)).bind fun (z3 : T_octet_Out) =>
    some z3)

noncomputable def octet_Out_Byte (w_0 : T_octet_Out) (n_1 : Int) : Option T_octet_Out :=
  (octet_Out_open w_0).bind fun (z1 : Bool) =>
  cond (!z1)
    (some w_0)
    (cond (cond (decide (n_1 < 0)) true (decide (255 < n_1)))
      (some ({ w_0 with err := 4 }))
      ((app 1 w_0.b ([IntKind.u8.wrap n_1] : List Int)).bind fun (z3 : List Int) =>
      some ({ w_0 with b := z3 })))

noncomputable def octet_Out_Text (w_0 : T_octet_Out) (s_1 : Bytes) : Option T_octet_Out :=
  (octet_Out_open w_0).bind fun (z1 : Bool) =>
  cond (!z1)
    (some w_0)
    (cond (decide (255 < (s_1.length : Int)))
      (some ({ w_0 with err := 5 }))
      ((octet_Out_Byte w_0 (s_1.length : Int)).bind fun (z3 : T_octet_Out) =>
      (app 1 z3.b (s_1.map fun b => (b.toNat : Int))).bind fun (z6 : List Int) =>
      some ({ z3 with b := z6 })))

noncomputable def octet_Out_Value_L1b (v_1 : T_api_Value) (z21 : (Int × T_octet_Out)) : Option ((Int × T_octet_Out) ⊕ T_octet_Out) :=
  cond (decide (z21.1 < (v_1.L.length : Int)))
    ((idx v_1.L z21.1).bind fun (z22 : Bytes) =>
    (octet_Out_Text z21.2 z22).bind fun (z23 : T_octet_Out) =>
    some (.inl (IntKind.i64.wrap (z21.1 + 1), z23)))
    (brk (some z21.2))
noncomputable def octet_Out_Value_L1 (v_1 : T_api_Value) (z21 : (Int × T_octet_Out)) : Option T_octet_Out := loopO (octet_Out_Value_L1b v_1) z21

noncomputable def octet_Out_Value (w_0 : T_octet_Out) (v_1 : T_api_Value) : Option T_octet_Out :=
  (octet_Out_open w_0).bind fun (z2 : Bool) =>
  cond (!z2)
    (some w_0)
    ((value_Check v_1).bind fun (z4 : Int) =>
    cond (z4 != 0)
      (some ({ w_0 with err := z4 }))
      ((octet_Out_Byte ({ w_0 with err := z4 }) v_1.Kind).bind fun (z5 : T_octet_Out) =>
      cond (v_1.Kind == 1)
        ((octet_Out_Int z5 v_1.N).bind fun (z8 : T_octet_Out) =>
        some z8)
        (cond (v_1.Kind == 2)
          ((octet_Out_Byte z5 v_1.N).bind fun (z11 : T_octet_Out) =>
          some z11)
          (cond (v_1.Kind == 3)
            ((octet_Out_Text z5 v_1.S).bind fun (z14 : T_octet_Out) =>
            some z14)
            (cond (v_1.Kind == 4)
              ((octet_Out_Byte z5 (v_1.L.length : Int)).bind fun (z17 : T_octet_Out) =>
              (octet_Out_Value_L1 v_1 (0, z17)).bind fun (z20 : T_octet_Out) =>
              some z20)
              (some z5))))))

noncomputable def slices_Clone_byte_byte (s_0 : (List Int)) : Option (List Int) :=
  alt s_0
    (some [])
    ((app 1 ([] : List Int) s_0).bind fun (z2 : List Int) =>
    some z2)

noncomputable def octet_Out_Done (w_0 : T_octet_Out) : Option ((List Int) × Int) :=
  cond (w_0.err != 0)
    (some ([], w_0.err))
    ((slices_Clone_byte_byte w_0.b).bind fun (z1 : (List Int)) =>
    some (z1, 0))

noncomputable def event_Put (e_0 : T_api_Event) : Option ((List Int) × Int) :=
  (event_Check e_0).bind fun (z2 : Int) =>
  cond (z2 != 0)
    (some ([], z2))
    ((octet_Out_Int T_octet_Out_zero e_0.At).bind fun (z4 : T_octet_Out) =>
    (octet_Out_Byte z4 e_0.Kind).bind fun (z7 : T_octet_Out) =>
    (octet_Out_Byte z7 e_0.Id).bind fun (z10 : T_octet_Out) =>
    (octet_Out_Text z10 e_0.Subject).bind fun (z13 : T_octet_Out) =>
    (octet_Out_Text z13 e_0.Object).bind fun (z16 : T_octet_Out) =>
    (octet_Out_Text z16 e_0.Name).bind fun (z19 : T_octet_Out) =>
    cond (e_0.Kind == 4)
      ((octet_Out_Value z19 e_0.Value).bind fun (z22 : T_octet_Out) =>
      (octet_Out_Done z22).bind fun (z25 : ((List Int) × Int)) =>
      some (z25.1, z25.2))
      ((octet_Out_Done z19).bind fun (z28 : ((List Int) × Int)) =>
      some (z28.1, z28.2)))

noncomputable def octet_Open (b_0 : (List Int)) : Option T_octet_In :=
  (slices_Clone_byte_byte b_0).bind fun (z1 : (List Int)) =>
  some (⟨z1, true, 0⟩ : T_octet_In)

noncomputable def octet_In_Err (r_0 : T_octet_In) : Option Int :=
  cond (cond false true (!r_0.made))
    (some 9)
    (some r_0.err)

noncomputable def octet_In_fail (r_0 : T_octet_In) : Option T_octet_In :=
  (octet_In_Err r_0).bind fun (z1 : Int) =>
  cond (z1 == 0)
    (some ({ ({ r_0 with err := 16 }) with b := ([] : List Int) }))
    (some r_0)

noncomputable def octet_In_take (r_0 : T_octet_In) (n_1 : Int) : Option ((Option (List Int)) × T_octet_In) :=
  (octet_In_Err r_0).bind fun (z1 : Int) =>
  cond (z1 != 0)
    (some (none, r_0))
    (cond (decide ((r_0.b.length : Int) < n_1))
      ((octet_In_fail r_0).bind fun (z3 : T_octet_In) =>
      some (none, z3))
      ((sub r_0.b 0 n_1).bind fun (z5 : (List Int)) =>
      (sub r_0.b n_1 (r_0.b.length)).bind fun (z6 : (List Int)) =>
      some ((some z5), { r_0 with b := z6 })))

noncomputable def octet_In_Int_L1b (z1 : ((Option (List Int)) × T_octet_In)) (z4 : (Int × Int)) : Option ((Int × Int) ⊕ Int) :=
  cond (decide (z4.2 < ((z1.1.getD []).length : Int)))
    ((idx (z1.1.getD []) z4.2).bind fun (z5 : Int) =>
    (shlF .u64 z4.1 8).bind fun (z6 : Int) =>
    some (.inl (orF .u64 z6 (IntKind.u64.wrap z5), IntKind.i64.wrap (z4.2 + 1))))
    (brk (some z4.1))
noncomputable def octet_In_Int_L1 (z1 : ((Option (List Int)) × T_octet_In)) (z4 : (Int × Int)) : Option Int := loopO (octet_In_Int_L1b z1) z4

noncomputable def octet_In_Int (r_0 : T_octet_In) : Option (Int × T_octet_In) :=
  (octet_In_take r_0 8).bind fun (z1 : ((Option (List Int)) × T_octet_In)) =>
  (octet_In_Int_L1 z1 (0, 0)).bind fun (z3 : Int) =>
  some (IntKind.i64.wrap z3, z1.2)

noncomputable def octet_In_Byte (r_0 : T_octet_In) : Option (Int × T_octet_In) :=
  (octet_In_take r_0 1).bind fun (z1 : ((Option (List Int)) × T_octet_In)) =>
  optn z1.1
    (some (0, z1.2))
    ((idx (z1.1.getD []) 0).bind fun (z3 : Int) =>
    some (IntKind.i64.wrap z3, z1.2))

noncomputable def octet_In_Text (r_0 : T_octet_In) : Option (Bytes × T_octet_In) :=
  (octet_In_Byte r_0).bind fun (z1 : (Int × T_octet_In)) =>
  (octet_In_take z1.2 z1.1).bind fun (z3 : ((Option (List Int)) × T_octet_In)) =>
  some (toBytes (z3.1.getD []), z3.2)

noncomputable def octet_In_parts_L1b (z14 : (Int × T_octet_In)) (z17 : (Int × T_octet_In × T_api_Value)) : Option ((Int × T_octet_In × T_api_Value) ⊕ (T_octet_In × T_api_Value)) :=
  cond (decide (z17.1 < z14.1))
    ((octet_In_Text z17.2.1).bind fun (z19 : (Bytes × T_octet_In)) =>
    (app 16 z17.2.2.L ([z19.1] : List Bytes)).bind fun (z21 : List Bytes) =>
    some (.inl (IntKind.i64.wrap (z17.1 + 1), z19.2, { z17.2.2 with L := z21 })))
    (brk (some (z17.2.1, z17.2.2)))
noncomputable def octet_In_parts_L1 (z14 : (Int × T_octet_In)) (z17 : (Int × T_octet_In × T_api_Value)) : Option (T_octet_In × T_api_Value) := loopO (octet_In_parts_L1b z14) z17

noncomputable def octet_In_parts (r_0 : T_octet_In) : Option (T_api_Value × T_octet_In) :=
  (octet_In_Byte r_0).bind fun (z2 : (Int × T_octet_In)) =>
  cond (z2.1 == 1)
    ((octet_In_Int z2.2).bind fun (z5 : (Int × T_octet_In)) =>
    lt ({ ({ (⟨z2.1, 0, [], []⟩ : T_api_Value) with N := z5.1 }) with L := ([] : List Bytes) }) fun (z7 : T_api_Value) =>
    some (z7, z5.2))
    (cond (z2.1 == 2)
      ((octet_In_Byte z2.2).bind fun (z8 : (Int × T_octet_In)) =>
      lt ({ ({ (⟨z2.1, 0, [], []⟩ : T_api_Value) with N := z8.1 }) with L := ([] : List Bytes) }) fun (z10 : T_api_Value) =>
      some (z10, z8.2))
      (cond (z2.1 == 3)
        ((octet_In_Text z2.2).bind fun (z11 : (Bytes × T_octet_In)) =>
        lt ({ ({ (⟨z2.1, 0, [], []⟩ : T_api_Value) with S := z11.1 }) with L := ([] : List Bytes) }) fun (z13 : T_api_Value) =>
        some (z13, z11.2))
        (cond (z2.1 == 4)
          ((octet_In_Byte z2.2).bind fun (z14 : (Int × T_octet_In)) =>
          (octet_In_parts_L1 z14 (0, z14.2, { (⟨z2.1, 0, [], []⟩ : T_api_Value) with L := ([] : List Bytes) })).bind fun (z16 : (T_octet_In × T_api_Value)) =>
          some ({ z16.2 with L := z16.2.L }, z16.1))
          (lt ({ (⟨z2.1, 0, [], []⟩ : T_api_Value) with L := ([] : List Bytes) }) fun (z23 : T_api_Value) =>
          some (z23, z2.2)))))

noncomputable def octet_In_Value (r_0 : T_octet_In) : Option (T_api_Value × T_octet_In) :=
  (octet_In_parts r_0).bind fun (z2 : (T_api_Value × T_octet_In)) =>
  (octet_In_Err z2.2).bind fun (z5 : Int) =>
  (gd (true && ((z5 == 0) == true)) (value_Check z2.1) 0).bind fun (z7 : Int) =>
  cond (cond (z5 == 0) (z7 != 0) false)
    ((octet_In_fail z2.2).bind fun (z8 : T_octet_In) =>
    (octet_In_Err z8).bind fun (z10 : Int) =>
    cond (z10 != 0)
      (some ((⟨0, 0, [], []⟩ : T_api_Value), z8))
      (some (z2.1, z8)))
    ((octet_In_Err z2.2).bind fun (z12 : Int) =>
    cond (z12 != 0)
      (some ((⟨0, 0, [], []⟩ : T_api_Value), z2.2))
      (some (z2.1, z2.2)))

noncomputable def octet_In_Left (r_0 : T_octet_In) : Option Int :=
  (octet_In_Err r_0).bind fun (z1 : Int) =>
  cond (z1 != 0)
    (some 0)
    (some (r_0.b.length : Int))

noncomputable def event_Read (b_0 : (List Int)) : Option (T_api_Event × Int) :=
  cond (decide (512 < (b_0.length : Int)))
    (some ((⟨0, 0, 0, [], [], [], T_api_Value_zero⟩ : T_api_Event), 5))
    ((octet_Open b_0).bind fun (z2 : T_octet_In) =>
    (octet_In_Int z2).bind fun (z6 : (Int × T_octet_In)) =>
    (octet_In_Byte z6.2).bind fun (z8 : (Int × T_octet_In)) =>
    (octet_In_Byte z8.2).bind fun (z10 : (Int × T_octet_In)) =>
    (octet_In_Text z10.2).bind fun (z12 : (Bytes × T_octet_In)) =>
    (octet_In_Text z12.2).bind fun (z14 : (Bytes × T_octet_In)) =>
    (octet_In_Text z14.2).bind fun (z16 : (Bytes × T_octet_In)) =>
    lt (⟨z6.1, z8.1, z10.1, z12.1, z14.1, z16.1, T_api_Value_zero⟩ : T_api_Event) fun (z19 : T_api_Event) =>
    (cond (z19.Kind == 4)
      ((octet_In_Value z16.2).bind fun (z26 : (T_api_Value × T_octet_In)) =>
      some ({ z19 with Value := z26.1 }, z26.2))
      (some (z19, z16.2))).bind fun (z20 : (T_api_Event × T_octet_In)) =>
    (octet_In_Err z20.2).bind fun (z21 : Int) =>
    (gd (true && ((z21 != 0) == false)) (octet_In_Left z20.2) 0).bind fun (z23 : Int) =>
    (gd (true && ((cond (z21 != 0) true (decide (0 < z23))) == false)) (event_Check z20.1) 0).bind fun (z25 : Int) =>
    cond (cond (cond (z21 != 0) true (decide (0 < z23))) true (z25 != 0))
      (some ((⟨0, 0, 0, [], [], [], T_api_Value_zero⟩ : T_api_Event), 16))
      (some (z20.1, 0)))

noncomputable def law23_alive  : Option Bool :=
  (law23_tick 258).bind fun (z1 : T_api_Event) =>
  (event_Put z1).bind fun (z2 : ((List Int) × Int)) =>
  (event_Read z2.1).bind fun (z5 : (T_api_Event × Int)) =>
  (gd (true && ((cond (z2.2 == 0) ((z2.1.length : Int) == 13) false) == true)) (idx z2.1 6) 0).bind fun (z7 : Int) =>
  (gd (true && ((cond (cond (z2.2 == 0) ((z2.1.length : Int) == 13) false) (z7 == 1) false) == true)) (idx z2.1 7) 0).bind fun (z8 : Int) =>
  (gd (true && ((cond (cond (cond (z2.2 == 0) ((z2.1.length : Int) == 13) false) (z7 == 1) false) (z8 == 2) false) == true)) (idx z2.1 8) 0).bind fun (z9 : Int) =>
  (gd (true && ((cond (cond (cond (cond (cond (cond (z2.2 == 0) ((z2.1.length : Int) == 13) false) (z7 == 1) false) (z8 == 2) false) (z9 == 5) false) (z5.2 == 0) false) (z5.1.At == 258) false) == true)) (event_Check (⟨0, 0, 0, [], [], [], T_api_Value_zero⟩ : T_api_Event)) 0).bind fun (z10 : Int) =>
  lt (cond (cond (cond (cond (cond (cond (cond (z2.2 == 0) ((z2.1.length : Int) == 13) false) (z7 == 1) false) (z8 == 2) false) (z9 == 5) false) (z5.2 == 0) false) (z5.1.At == 258) false) (z10 == 12) false) fun (z11 : Bool) =>
  some z11

noncomputable def ref04_take (r_0 : T_ref04_Reader) (n_1 : Int) : Option (Int × T_ref04_Reader) :=
  cond (cond r_0.Bad true (decide ((IntKind.i64.wrap ((r_0.B.length : Int) - r_0.At)) < n_1)))
    (some (0, { r_0 with Bad := true }))
    (some (r_0.At, { r_0 with At := IntKind.i64.wrap (r_0.At + n_1) }))

noncomputable def ref04_Number_L1b (z3 : (Int × T_ref04_Reader)) (r_0 : T_ref04_Reader) (z7 : (Int × Int)) : Option ((Int × Int) ⊕ Int) :=
  cond (decide (z7.2 < 8))
    ((idx r_0.B (IntKind.i64.wrap (z3.1 + z7.2))).bind fun (z8 : Int) =>
    lt (IntKind.i64.wrap ((IntKind.i64.wrap (z7.1 * 256)) + (IntKind.i64.wrap z8))) fun (n9 : Int) =>
    some (.inl (n9, IntKind.i64.wrap (z7.2 + 1))))
    (brk (some z7.1))
noncomputable def ref04_Number_L1 (z3 : (Int × T_ref04_Reader)) (r_0 : T_ref04_Reader) (z7 : (Int × Int)) : Option Int := loopO (ref04_Number_L1b z3 r_0) z7

noncomputable def ref04_Number (r_0 : T_ref04_Reader) : Option (Int × T_ref04_Reader) :=
  (ref04_take r_0 8).bind fun (z3 : (Int × T_ref04_Reader)) =>
  cond z3.2.Bad
    (some (0, z3.2))
    ((idx r_0.B z3.1).bind fun (z5 : Int) =>
    (ref04_Number_L1 z3 r_0 (IntKind.i64.wrap (IntKind.i8.wrap z5), 1)).bind fun (z6 : Int) =>
    some (z6, z3.2))

noncomputable def ref04_Byte (r_0 : T_ref04_Reader) : Option (Int × T_ref04_Reader) :=
  (ref04_take r_0 1).bind fun (z3 : (Int × T_ref04_Reader)) =>
  cond z3.2.Bad
    (some (0, z3.2))
    ((idx r_0.B z3.1).bind fun (z5 : Int) =>
    some (IntKind.i64.wrap z5, z3.2))

noncomputable def ref04_Words (r_0 : T_ref04_Reader) : Option (Bytes × T_ref04_Reader) :=
  (ref04_Byte r_0).bind fun (z3 : (Int × T_ref04_Reader)) =>
  (ref04_take z3.2 z3.1).bind fun (z5 : (Int × T_ref04_Reader)) =>
  cond z5.2.Bad
    (some (([] : Bytes), z5.2))
    ((sub r_0.B z5.1 (IntKind.i64.wrap (z5.1 + z3.1))).bind fun (z7 : (List Int)) =>
    some (toBytes z7, z5.2))

noncomputable def ref02_bad_L1b (l_0 : (List Bytes)) (z3 : Int) : Option (Int ⊕ (Unit ⊕ Int)) :=
  cond (decide ((IntKind.i64.wrap (z3 + 1)) < (l_0.length : Int)))
    ((idx l_0 z3).bind fun (z4 : Bytes) =>
    (idx l_0 (IntKind.i64.wrap (z3 + 1))).bind fun (z5 : Bytes) =>
    cond (!(less z4 z5))
      (brk (brk (some 2)))
      (some (.inl (IntKind.i64.wrap (z3 + 1)))))
    (brk (some (.inl ())))
noncomputable def ref02_bad_L1 (l_0 : (List Bytes)) (z3 : Int) : Option (Unit ⊕ Int) := loopO (ref02_bad_L1b l_0) z3

noncomputable def ref02_bad_L2b (l_0 : (List Bytes)) (z6 : Int) : Option (Int ⊕ (Unit ⊕ Int)) :=
  cond (decide (z6 < (l_0.length : Int)))
    ((idx l_0 z6).bind fun (z7 : Bytes) =>
    cond (decide (32 < (z7.length : Int)))
      (brk (brk (some 1)))
      (some (.inl (IntKind.i64.wrap (z6 + 1)))))
    (brk (some (.inl ())))
noncomputable def ref02_bad_L2 (l_0 : (List Bytes)) (z6 : Int) : Option (Unit ⊕ Int) := loopO (ref02_bad_L2b l_0) z6

noncomputable def ref02_bad (l_0 : (List Bytes)) : Option Int :=
  both (ref02_bad_L2 l_0 0) fun (z1 : Unit) =>
  both (ref02_bad_L1 l_0 0) fun (z2 : Unit) =>
  some 0

noncomputable def ref02_Check (v_0 : T_api_Value) : Option Int :=
  cond (cond (cond (cond (v_0.Kind != 1) (v_0.Kind != 2) false) (v_0.Kind != 3) false) (v_0.Kind != 4) false)
    (some 12)
    ((ref02_bad v_0.L).bind fun (z2 : Int) =>
    cond (cond (decide (32 < (v_0.S.length : Int))) true (z2 == 1))
      (some 5)
      (cond (decide (8 < (v_0.L.length : Int)))
        (some 3)
        (cond (z2 == 2)
          (some 4)
          (cond (cond (cond (v_0.Kind == 1) (v_0.S == ([] : Bytes)) false) ((v_0.L.length : Int) == 0) false)
            (some 0)
            (cond (cond (cond (cond (v_0.Kind == 2) (cond (v_0.N == 0) true (v_0.N == 1)) false) (v_0.S == ([] : Bytes)) false) ((v_0.L.length : Int) == 0) false)
              (some 0)
              (cond (cond (cond (v_0.Kind == 3) (v_0.N == 0) false) ((v_0.L.length : Int) == 0) false)
                (some 0)
                (cond (cond (cond (v_0.Kind == 4) (v_0.N == 0) false) (v_0.S == ([] : Bytes)) false)
                  (some 0)
                  (some 4))))))))

noncomputable def ref04_Thing_L1b (z11 : (Int × T_ref04_Reader)) (z13 : (Int × T_ref04_Reader × T_api_Value)) : Option ((Int × T_ref04_Reader × T_api_Value) ⊕ (T_ref04_Reader × T_api_Value)) :=
  cond (cond (decide (z13.1 < z11.1)) (!z13.2.1.Bad) false)
    ((ref04_Words z13.2.1).bind fun (z14 : (Bytes × T_ref04_Reader)) =>
    (app 16 z13.2.2.L ([z14.1] : List Bytes)).bind fun (z15 : List Bytes) =>
    some (.inl (IntKind.i64.wrap (z13.1 + 1), z14.2, { z13.2.2 with L := z15 })))
    (brk (some (z13.2.1, z13.2.2)))
noncomputable def ref04_Thing_L1 (z11 : (Int × T_ref04_Reader)) (z13 : (Int × T_ref04_Reader × T_api_Value)) : Option (T_ref04_Reader × T_api_Value) := loopO (ref04_Thing_L1b z11) z13

noncomputable def ref04_Thing (r_0 : T_ref04_Reader) : Option (T_api_Value × T_ref04_Reader) :=
  (ref04_Byte r_0).bind fun (z4 : (Int × T_ref04_Reader)) =>
  (cond (z4.1 == 1)
    ((ref04_Number z4.2).bind fun (z19 : (Int × T_ref04_Reader)) =>
    some ({ (⟨z4.1, 0, [], []⟩ : T_api_Value) with N := z19.1 }, z19.2))
    (some ((⟨z4.1, 0, [], []⟩ : T_api_Value), z4.2))).bind fun (z6 : (T_api_Value × T_ref04_Reader)) =>
  (cond (z4.1 == 2)
    ((ref04_Byte z6.2).bind fun (z18 : (Int × T_ref04_Reader)) =>
    some ({ z6.1 with N := z18.1 }, z18.2))
    (some (z6.1, z6.2))).bind fun (z7 : (T_api_Value × T_ref04_Reader)) =>
  (cond (z4.1 == 3)
    ((ref04_Words z7.2).bind fun (z17 : (Bytes × T_ref04_Reader)) =>
    some ({ z7.1 with S := z17.1 }, z17.2))
    (some (z7.1, z7.2))).bind fun (z8 : (T_api_Value × T_ref04_Reader)) =>
  (cond (z4.1 == 4)
    ((ref04_Byte z8.2).bind fun (z11 : (Int × T_ref04_Reader)) =>
    (ref04_Thing_L1 z11 (0, z11.2, { z8.1 with L := ([] : List Bytes) })).bind fun (z12 : (T_ref04_Reader × T_api_Value)) =>
    some (z12.2, z12.1))
    (some ({ z8.1 with L := ([] : List Bytes) }, z8.2))).bind fun (z9 : (T_api_Value × T_ref04_Reader)) =>
  (gd (true && (z9.2.Bad == false)) (ref02_Check ({ z9.1 with L := z9.1.L })) 0).bind fun (z10 : Int) =>
  cond (cond z9.2.Bad true (z10 != 0))
    (some ((⟨0, 0, [], []⟩ : T_api_Value), { z9.2 with Bad := true }))
    (some ({ z9.1 with L := z9.1.L }, z9.2))

noncomputable def ref04_Left (r_0 : T_ref04_Reader) : Option Int :=
  cond r_0.Bad
    (some 0)
    (lt (IntKind.i64.wrap ((r_0.B.length : Int) - r_0.At)) fun (z2 : Int) =>
    some z2)

noncomputable def ref06_head (c_0 : Int) : Option Bool :=
  lt (cond (cond (cond (decide (97 ≤ c_0)) (decide (c_0 ≤ 122)) false) true (cond (decide (65 ≤ c_0)) (decide (c_0 ≤ 90)) false)) true (c_0 == 95)) fun (z1 : Bool) =>
  some z1

noncomputable def ref06_tail (c_0 : Int) : Option Bool :=
  (ref06_head c_0).bind fun (z1 : Bool) =>
  lt (cond z1 true (cond (decide (48 ≤ c_0)) (decide (c_0 ≤ 57)) false)) fun (z2 : Bool) =>
  some z2

noncomputable def ref06_Name_L1b (s_0 : Bytes) (z4 : Int) : Option (Int ⊕ (Unit ⊕ Bool)) :=
  cond (decide (z4 < (s_0.length : Int)))
    ((idxb s_0 z4).bind fun (z5 : Int) =>
    (ref06_tail z5).bind fun (z6 : Bool) =>
    cond (!z6)
      (brk (brk (some false)))
      (some (.inl (IntKind.i64.wrap (z4 + 1)))))
    (brk (some (.inl ())))
noncomputable def ref06_Name_L1 (s_0 : Bytes) (z4 : Int) : Option (Unit ⊕ Bool) := loopO (ref06_Name_L1b s_0) z4

noncomputable def ref06_Name (s_0 : Bytes) : Option Bool :=
  (gd (true && ((cond (s_0 == ([] : Bytes)) true (decide (16 < (s_0.length : Int)))) == false)) (idxb s_0 0) 0).bind fun (z1 : Int) =>
  (gd (true && ((cond (s_0 == ([] : Bytes)) true (decide (16 < (s_0.length : Int)))) == false)) (ref06_head z1) false).bind fun (z2 : Bool) =>
  cond (cond (cond (s_0 == ([] : Bytes)) true (decide (16 < (s_0.length : Int)))) true (!z2))
    (some false)
    (both (ref06_Name_L1 s_0 1) fun (z3 : Unit) =>
    some true)

noncomputable def ref23_empty (v_0 : T_api_Value) : Option Bool :=
  lt (cond (cond (cond (v_0.Kind == 0) (v_0.N == 0) false) (v_0.S == ([] : Bytes)) false) ((v_0.L.length : Int) == 0) false) fun (z2 : Bool) =>
  some z2

noncomputable def ref23_Check (e_0 : T_api_Event) : Option Int :=
  cond (cond (decide (e_0.Kind < 1)) true (decide (5 < e_0.Kind)))
    (some 12)
    (cond (cond (cond (decide (e_0.At < 0)) true (decide (e_0.Id < 0))) true (decide (63 < e_0.Id)))
      (some 4)
      (cond (cond (!(decide (e_0.Kind ≤ 3))) (e_0.Id != 0) false)
        (some 16)
        ((ref06_Name e_0.Subject).bind fun (z2 : Bool) =>
        cond (cond ((cond (e_0.Kind == 1) true (e_0.Kind == 4)) != z2) true (cond (!(cond (e_0.Kind == 1) true (e_0.Kind == 4))) (e_0.Subject != ([] : Bytes)) false))
          (some 16)
          ((ref06_Name e_0.Object).bind fun (z3 : Bool) =>
          cond (cond ((e_0.Kind == 1) != z3) true (cond (!(e_0.Kind == 1)) (e_0.Object != ([] : Bytes)) false))
            (some 16)
            ((ref06_Name e_0.Name).bind fun (z4 : Bool) =>
            cond (cond ((cond (cond (e_0.Kind == 1) true (e_0.Kind == 2)) true (e_0.Kind == 4)) != z4) true (cond (!(cond (cond (e_0.Kind == 1) true (e_0.Kind == 2)) true (e_0.Kind == 4))) (e_0.Name != ([] : Bytes)) false))
              (some 16)
              ((gd (true && ((e_0.Kind == 4) == true)) (ref02_Check e_0.Value) 0).bind fun (z5 : Int) =>
              (gd ((true && ((cond (e_0.Kind == 4) (z5 != 0) false) == false)) && ((!(e_0.Kind == 4)) == true)) (ref23_empty e_0.Value) false).bind fun (z6 : Bool) =>
              cond (cond (cond (e_0.Kind == 4) (z5 != 0) false) true (cond (!(e_0.Kind == 4)) (!z6) false))
                (some 16)
                (some 0)))))))

noncomputable def ref23_Read (b_0 : (List Int)) : Option (T_api_Event × Int) :=
  cond (decide (512 < (b_0.length : Int)))
    (some ((⟨0, 0, 0, [], [], [], T_api_Value_zero⟩ : T_api_Event), 5))
    ((ref04_Number (⟨b_0, 0, false⟩ : T_ref04_Reader)).bind fun (z3 : (Int × T_ref04_Reader)) =>
    (ref04_Byte z3.2).bind fun (z4 : (Int × T_ref04_Reader)) =>
    (ref04_Byte z4.2).bind fun (z5 : (Int × T_ref04_Reader)) =>
    (ref04_Words z5.2).bind fun (z6 : (Bytes × T_ref04_Reader)) =>
    (ref04_Words z6.2).bind fun (z7 : (Bytes × T_ref04_Reader)) =>
    (ref04_Words z7.2).bind fun (z8 : (Bytes × T_ref04_Reader)) =>
    lt (⟨z3.1, z4.1, z5.1, z6.1, z7.1, z8.1, T_api_Value_zero⟩ : T_api_Event) fun (z10 : T_api_Event) =>
    (cond (z4.1 == 4)
      ((ref04_Thing z8.2).bind fun (z15 : (T_api_Value × T_ref04_Reader)) =>
      some ({ z10 with Value := z15.1 }, z15.2))
      (some (z10, z8.2))).bind fun (z11 : (T_api_Event × T_ref04_Reader)) =>
    (gd (true && (z11.2.Bad == false)) (ref04_Left z11.2) 0).bind fun (z12 : Int) =>
    (gd (true && ((cond z11.2.Bad true (decide (0 < z12))) == false)) (ref23_Check z11.1) 0).bind fun (z13 : Int) =>
    cond (cond (cond z11.2.Bad true (decide (0 < z12))) true (z13 != 0))
      (some ((⟨0, 0, 0, [], [], [], T_api_Value_zero⟩ : T_api_Event), 16))
      (some (z11.1, 0)))

noncomputable def plain_Texts_L1b (a_0 : (List Bytes)) (b_1 : (List Bytes)) (z2 : Int) : Option (Int ⊕ (Unit ⊕ Bool)) :=
  cond (decide (z2 < (a_0.length : Int)))
    ((idx a_0 z2).bind fun (z3 : Bytes) =>
    (idx b_1 z2).bind fun (z4 : Bytes) =>
    cond (z3 != z4)
      (brk (brk (some false)))
      (some (.inl (IntKind.i64.wrap (z2 + 1)))))
    (brk (some (.inl ())))
noncomputable def plain_Texts_L1 (a_0 : (List Bytes)) (b_1 : (List Bytes)) (z2 : Int) : Option (Unit ⊕ Bool) := loopO (plain_Texts_L1b a_0 b_1) z2

noncomputable def plain_Texts (a_0 : (List Bytes)) (b_1 : (List Bytes)) : Option Bool :=
  cond ((a_0.length : Int) != (b_1.length : Int))
    (some false)
    (both (plain_Texts_L1 a_0 b_1 0) fun (z1 : Unit) =>
    some true)

noncomputable def plain_Value (a_0 : T_api_Value) (b_1 : T_api_Value) : Option Bool :=
  (gd (true && ((cond (cond (a_0.Kind == b_1.Kind) (a_0.N == b_1.N) false) (a_0.S == b_1.S) false) == true)) (plain_Texts a_0.L b_1.L) false).bind fun (z3 : Bool) =>
  lt (cond (cond (cond (a_0.Kind == b_1.Kind) (a_0.N == b_1.N) false) (a_0.S == b_1.S) false) z3 false) fun (z4 : Bool) =>
  some z4

noncomputable def plain_Event (a_0 : T_api_Event) (b_1 : T_api_Event) : Option Bool :=
  (gd (true && ((cond (cond (cond (cond (cond (a_0.At == b_1.At) (a_0.Kind == b_1.Kind) false) (a_0.Id == b_1.Id) false) (a_0.Subject == b_1.Subject) false) (a_0.Object == b_1.Object) false) (a_0.Name == b_1.Name) false) == true)) (plain_Value a_0.Value b_1.Value) false).bind fun (z3 : Bool) =>
  lt (cond (cond (cond (cond (cond (cond (a_0.At == b_1.At) (a_0.Kind == b_1.Kind) false) (a_0.Id == b_1.Id) false) (a_0.Subject == b_1.Subject) false) (a_0.Object == b_1.Object) false) (a_0.Name == b_1.Name) false) z3 false) fun (z4 : Bool) =>
  some z4

noncomputable def law23_EventReads (b_0 : (List Int)) : Option Bool :=
  (law23_alive ).bind fun (z1 : Bool) =>
  cond (!z1)
    (some false)
    ((event_Read b_0).bind fun (z2 : (T_api_Event × Int)) =>
    (ref23_Read b_0).bind fun (z4 : (T_api_Event × Int)) =>
    (gd (true && ((z2.2 == z4.2) == true)) (plain_Event z2.1 z4.1) false).bind fun (z6 : Bool) =>
    some (cond (z2.2 == z4.2) z6 false))

noncomputable def law23_EventBack (e_0 : T_api_Event) (b_1 : (List Int)) : Option Bool :=
  (law23_alive ).bind fun (z2 : Bool) =>
  cond (!z2)
    (some false)
    ((event_Put e_0).bind fun (z3 : ((List Int) × Int)) =>
    (ref23_Check e_0).bind fun (z6 : Int) =>
    both (cond (z6 == 0)
      ((event_Read z3.1).bind fun (z14 : (T_api_Event × Int)) =>
      (gd (true && ((cond (z3.2 != 0) true (z14.2 != 0)) == false)) (plain_Event z14.1 e_0) false).bind fun (z16 : Bool) =>
      cond (cond (cond (z3.2 != 0) true (z14.2 != 0)) true (!z16))
        (brk (some false))
        (some (.inl ())))
      (some (.inl ()))) fun (z7 : Unit) =>
    (event_Read b_1).bind fun (z8 : (T_api_Event × Int)) =>
    cond (z8.2 != 0)
      (some true)
      ((event_Put z8.1).bind fun (z10 : ((List Int) × Int)) =>
      lt (cond (z10.2 == 0) ((toBytes z10.1) == (toBytes b_1)) false) fun (z13 : Bool) =>
      some z13))

end Go.Proofs.Ytjknjpaabogemaa.M
