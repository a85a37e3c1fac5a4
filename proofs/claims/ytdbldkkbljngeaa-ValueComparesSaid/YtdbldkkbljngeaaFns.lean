/- The functions, as plain Lean: written by gen2.py. -/
import Derived.Test.YtdbldkkbljngeaaEng
namespace Go.Proofs.Ytdbldkkbljngeaa.M
open Go.Eng Go
set_option linter.unusedVariables false

structure T_api_Value where
  Kind : Int
  N : Int
  S : Bytes
  L : (List Bytes)
def T_api_Value_tup (x : T_api_Value) : Int × Int × Bytes × (List Bytes) × Unit := (x.Kind, x.N, x.S, x.L, ())
def T_api_Value_rep0 := (Rep.cons (Rep.int .i64) (Rep.cons (Rep.int .i64) (Rep.cons (Rep.str) (Rep.cons ((Rep.str).slice) Rep.nil0))))
def T_api_Value_rep : Rep T_api_Value := T_api_Value_rep0.iso T_api_Value_tup
def T_api_Value_zero : T_api_Value := ⟨0, 0, [], []⟩
instance : Inhabited T_api_Value := ⟨T_api_Value_zero⟩

noncomputable def slices_Clone_string_string (s_0 : (List Bytes)) : Option (List Bytes) :=
  alt s_0
    (some [])
    ((app 16 ([] : List Bytes) s_0).bind fun (z2 : List Bytes) =>
    some z2)

noncomputable def slices_SortS (xs : (List Bytes)) : Option (List Bytes) := sortS xs

noncomputable def slices_CompactS (xs : (List Bytes)) : Option (List Bytes) := compactS xs

noncomputable def value_Set (l_0 : (List Bytes)) : Option T_api_Value :=
  (slices_Clone_string_string l_0).bind fun (z2 : (List Bytes)) =>
  (slices_SortS z2).bind fun (z5 : (List Bytes)) =>
  (slices_CompactS z5).bind fun (z7 : (List Bytes)) =>
  some (⟨4, 0, [], z7⟩ : T_api_Value)

noncomputable def plain_Texts_L1b (a_0 : (List Bytes)) (b_1 : (List Bytes)) (z2 : Int) : Option (Int ⊕ (Unit ⊕ Bool)) :=
  cond (decide (z2 < (a_0.length : Int)))
    ((idx a_0 z2).bind fun (z3 : Bytes) =>
    (idx b_1 z2).bind fun (z4 : Bytes) =>
    cond (z3 != z4)
      (brk (brk (some false)))
      (some (.inl (IntKind.i64.wrap (z2 + 1)))))
    (brk (some (.inl ())))
noncomputable def plain_Texts_L1 (a_0 : (List Bytes)) (b_1 : (List Bytes)) (z2 : Int) : Option (Unit ⊕ Bool) := loopO (plain_Texts_L1b a_0 b_1) z2

noncomputable def plain_Texts (a_0 : (List Bytes)) (b_1 : (List Bytes)) : Option Bool :=
  cond ((a_0.length : Int) != (b_1.length : Int))
    (some false)
    (both (plain_Texts_L1 a_0 b_1 0) fun (z1 : Unit) =>
    some true)

noncomputable def value_long (s_0 : Bytes) : Option Bool :=
  some (decide (32 < (s_0.length : Int)))

noncomputable def slices_IndexFunc_string_string_v0_L1b (s_0 : (List Bytes)) (z2 : Int) : Option (Int ⊕ (Unit ⊕ Int)) :=
  cond (decide (z2 < (s_0.length : Int)))
    ((idx s_0 z2).bind fun (z3 : Bytes) =>
    (value_long z3).bind fun (z4 : Bool) =>
    cond z4
      (brk (brk (some z2)))
      (some (.inl (IntKind.i64.wrap (z2 + 1)))))
    (brk (some (.inl ())))
noncomputable def slices_IndexFunc_string_string_v0_L1 (s_0 : (List Bytes)) (z2 : Int) : Option (Unit ⊕ Int) := loopO (slices_IndexFunc_string_string_v0_L1b s_0) z2

noncomputable def slices_IndexFunc_string_string_v0 (s_0 : (List Bytes)) : Option Int :=
  both (slices_IndexFunc_string_string_v0_L1 s_0 0) fun (z1 : Unit) =>
  some (-1)

noncomputable def slices_ContainsFunc_string_string_v0 (s_0 : (List Bytes)) : Option Bool :=
  (slices_IndexFunc_string_string_v0 s_0).bind fun (z1 : Int) =>
  some (decide (0 ≤ z1))

noncomputable def value_rises_L1b (l_0 : (List Bytes)) (z2 : Int) : Option (Int ⊕ (Unit ⊕ Bool)) :=
  cond (decide (z2 < (l_0.length : Int)))
    ((gd (true && ((decide (0 < z2)) == true)) (idx l_0 (IntKind.i64.wrap (z2 - 1))) []).bind fun (z3 : Bytes) =>
    (gd (true && ((decide (0 < z2)) == true)) (idx l_0 z2) []).bind fun (z4 : Bytes) =>
    cond (cond (decide (0 < z2)) (!(less z3 z4)) false)
      (brk (brk (some false)))
      (some (.inl (IntKind.i64.wrap (z2 + 1)))))
    (brk (some (.inl ())))
noncomputable def value_rises_L1 (l_0 : (List Bytes)) (z2 : Int) : Option (Unit ⊕ Bool) := loopO (value_rises_L1b l_0) z2

noncomputable def value_rises (l_0 : (List Bytes)) : Option Bool :=
  both (value_rises_L1 l_0 0) fun (z1 : Unit) =>
  some true

noncomputable def value_fits (v_0 : T_api_Value) : Option Bool :=
  cond (v_0.Kind == 1)
    (lt (cond (v_0.S == ([] : Bytes)) ((v_0.L.length : Int) == 0) false) fun (z2 : Bool) =>
    some z2)
    (cond (v_0.Kind == 2)
      (lt (cond (cond (cond (v_0.N == 0) true (v_0.N == 1)) (v_0.S == ([] : Bytes)) false) ((v_0.L.length : Int) == 0) false) fun (z3 : Bool) =>
      some z3)
      (cond (v_0.Kind == 3)
        (lt (cond (v_0.N == 0) ((v_0.L.length : Int) == 0) false) fun (z4 : Bool) =>
        some z4)
        ((gd (true && ((cond (v_0.N == 0) (v_0.S == ([] : Bytes)) false) == true)) (value_rises v_0.L) false).bind fun (z5 : Bool) =>
        lt (cond (cond (v_0.N == 0) (v_0.S == ([] : Bytes)) false) z5 false) fun (z6 : Bool) =>
        some z6)))

noncomputable def value_Check (v_0 : T_api_Value) : Option Int :=
  lt (cond (decide (v_0.Kind < 1)) true (decide (4 < v_0.Kind))) fun (z2 : Bool) =>
  cond z2
    (some 12)
    ((value_long v_0.S).bind fun (z3 : Bool) =>
    (gd (true && (z3 == false)) (slices_ContainsFunc_string_string_v0 v_0.L) false).bind fun (z4 : Bool) =>
    cond (cond z3 true z4)
      (some 5)
      (cond (decide (8 < (v_0.L.length : Int)))
        (some 3)
        ((value_fits v_0).bind fun (z5 : Bool) =>
        cond (!z5)
          (some 4)
          (some 0))))

noncomputable def slices_Index_string_string_L1b (s_0 : (List Bytes)) (v_1 : Bytes) (z2 : Int) : Option (Int ⊕ (Unit ⊕ Int)) :=
  cond (decide (z2 < (s_0.length : Int)))
    ((idx s_0 z2).bind fun (z3 : Bytes) =>
    cond (v_1 == z3)
      (brk (brk (some z2)))
      (some (.inl (IntKind.i64.wrap (z2 + 1)))))
    (brk (some (.inl ())))
noncomputable def slices_Index_string_string_L1 (s_0 : (List Bytes)) (v_1 : Bytes) (z2 : Int) : Option (Unit ⊕ Int) := loopO (slices_Index_string_string_L1b s_0 v_1) z2

noncomputable def slices_Index_string_string (s_0 : (List Bytes)) (v_1 : Bytes) : Option Int :=
  both (slices_Index_string_string_L1 s_0 v_1 0) fun (z1 : Unit) =>
  some (-1)

noncomputable def slices_Contains_string_string (s_0 : (List Bytes)) (v_1 : Bytes) : Option Bool :=
  (slices_Index_string_string s_0 v_1).bind fun (z1 : Int) =>
  some (decide (0 ≤ z1))

noncomputable def value_Has (v_0 : T_api_Value) (s_1 : Bytes) : Option Bool :=
  (slices_Contains_string_string v_0.L s_1).bind fun (z2 : Bool) =>
  some z2

noncomputable def value_Int (n_0 : Int) : Option T_api_Value :=
  some (⟨1, n_0, [], []⟩ : T_api_Value)

noncomputable def cmp_isNaN_int (x_0 : Int) : Option Bool :=
  some (x_0 != x_0)

noncomputable def cmp_Compare_int (x_0 : Int) (y_1 : Int) : Option Int :=
  (cmp_isNaN_int x_0).bind fun (z1 : Bool) =>
  (cmp_isNaN_int y_1).bind fun (z2 : Bool) =>
  cond z1
    (cond z2
      (some 0)
      (some (-1)))
    (cond z2
      (some 1)
      (cond (decide (x_0 < y_1))
        (some (-1))
        (cond (decide (y_1 < x_0))
          (some 1)
          (some 0))))

noncomputable def cmp_isNaN_int64 (x_0 : Int) : Option Bool :=
  some (x_0 != x_0)

noncomputable def cmp_Compare_int64 (x_0 : Int) (y_1 : Int) : Option Int :=
  (cmp_isNaN_int64 x_0).bind fun (z1 : Bool) =>
  (cmp_isNaN_int64 y_1).bind fun (z2 : Bool) =>
  cond z1
    (cond z2
      (some 0)
      (some (-1)))
    (cond z2
      (some 1)
      (cond (decide (x_0 < y_1))
        (some (-1))
        (cond (decide (y_1 < x_0))
          (some 1)
          (some 0))))

noncomputable def cmp_isNaN_string (x_0 : Bytes) : Option Bool :=
  some (x_0 != x_0)

noncomputable def cmp_Compare_string (x_0 : Bytes) (y_1 : Bytes) : Option Int :=
  (cmp_isNaN_string x_0).bind fun (z1 : Bool) =>
  (cmp_isNaN_string y_1).bind fun (z2 : Bool) =>
  cond z1
    (cond z2
      (some 0)
      (some (-1)))
    (cond z2
      (some 1)
      (cond (less x_0 y_1)
        (some (-1))
        (cond (!(less x_0 y_1 || x_0 == y_1))
          (some 1)
          (some 0))))

noncomputable def slices_Compare_string_string_L1b (s1_0 : (List Bytes)) (s2_1 : (List Bytes)) (z2 : Int) : Option (Int ⊕ (Unit ⊕ Int)) :=
  cond (decide (z2 < (s1_0.length : Int)))
    ((idx s1_0 z2).bind fun (z3 : Bytes) =>
    cond (decide ((s2_1.length : Int) ≤ z2))
      (brk (brk (some 1)))
      ((idx s2_1 z2).bind fun (z4 : Bytes) =>
      (cmp_Compare_string z3 z4).bind fun (z5 : Int) =>
      cond (z5 != 0)
        (brk (brk (some z5)))
        (some (.inl (IntKind.i64.wrap (z2 + 1))))))
    (brk (some (.inl ())))
noncomputable def slices_Compare_string_string_L1 (s1_0 : (List Bytes)) (s2_1 : (List Bytes)) (z2 : Int) : Option (Unit ⊕ Int) := loopO (slices_Compare_string_string_L1b s1_0 s2_1) z2

noncomputable def slices_Compare_string_string (s1_0 : (List Bytes)) (s2_1 : (List Bytes)) : Option Int :=
  both (slices_Compare_string_string_L1 s1_0 s2_1 0) fun (z1 : Unit) =>
  cond (decide ((s1_0.length : Int) < (s2_1.length : Int)))
    (some (-1))
    (some 0)

noncomputable def cmp_Or_int_L1b (vals_0 : (List Int)) (z2 : Int) : Option (Int ⊕ (Unit ⊕ Int)) :=
  cond (decide (z2 < (vals_0.length : Int)))
    ((idx vals_0 z2).bind fun (z3 : Int) =>
    cond (z3 != 0)
      (brk (brk (some z3)))
      (some (.inl (IntKind.i64.wrap (z2 + 1)))))
    (brk (some (.inl ())))
noncomputable def cmp_Or_int_L1 (vals_0 : (List Int)) (z2 : Int) : Option (Unit ⊕ Int) := loopO (cmp_Or_int_L1b vals_0) z2

noncomputable def cmp_Or_int (vals_0 : (List Int)) : Option Int :=
  both (cmp_Or_int_L1 vals_0 0) fun (z1 : Unit) =>
  some 0

noncomputable def value_Cmp (a_0 : T_api_Value) (b_1 : T_api_Value) : Option Int :=
  (cmp_Compare_int a_0.Kind b_1.Kind).bind fun (z3 : Int) =>
  (cmp_Compare_int64 a_0.N b_1.N).bind fun (z4 : Int) =>
  (cmp_Compare_string a_0.S b_1.S).bind fun (z5 : Int) =>
  (slices_Compare_string_string a_0.L b_1.L).bind fun (z6 : Int) =>
  (cmp_Or_int ([z3, z4, z5, z6] : List Int)).bind fun (z7 : Int) =>
  some z7

noncomputable def law02_alive  : Option Bool :=
  (value_Set ([([98] : Bytes), ([97] : Bytes), ([98] : Bytes)] : List Bytes)).bind fun (z1 : T_api_Value) =>
  (plain_Texts z1.L ([([97] : Bytes), ([98] : Bytes)] : List Bytes)).bind fun (z3 : Bool) =>
  (gd (true && (z3 == true)) (value_Check z1) 0).bind fun (z4 : Int) =>
  (gd (true && ((cond z3 (z4 == 0) false) == true)) (value_Check (⟨0, 0, [], []⟩ : T_api_Value)) 0).bind fun (z5 : Int) =>
  (gd (true && ((cond (cond z3 (z4 == 0) false) (z5 == 12) false) == true)) (value_Has z1 ([97] : Bytes)) false).bind fun (z6 : Bool) =>
  (gd (true && ((cond (cond (cond z3 (z4 == 0) false) (z5 == 12) false) z6 false) == true)) (value_Int 1) T_api_Value_zero).bind fun (z7 : T_api_Value) =>
  (gd (true && ((cond (cond (cond z3 (z4 == 0) false) (z5 == 12) false) z6 false) == true)) (value_Int 2) T_api_Value_zero).bind fun (z8 : T_api_Value) =>
  (gd (true && ((cond (cond (cond z3 (z4 == 0) false) (z5 == 12) false) z6 false) == true)) (value_Cmp z7 z8) 0).bind fun (z9 : Int) =>
  lt (cond (cond (cond (cond z3 (z4 == 0) false) (z5 == 12) false) z6 false) (z9 == (-1)) false) fun (z10 : Bool) =>
  some z10

noncomputable def value_Bool (is_0 : Bool) : Option T_api_Value :=
  cond is_0
    (some ({ (⟨2, 0, [], []⟩ : T_api_Value) with N := 1 }))
    (some (⟨2, 0, [], []⟩ : T_api_Value))

noncomputable def value_Text (s_0 : Bytes) : Option T_api_Value :=
  some (⟨3, 0, s_0, []⟩ : T_api_Value)

noncomputable def value_Zero (kind_0 : Int) : Option T_api_Value :=
  cond (cond (decide (kind_0 < 1)) true (decide (4 < kind_0)))
    (some (⟨0, 0, [], []⟩ : T_api_Value))
    (some (⟨kind_0, 0, [], []⟩ : T_api_Value))

noncomputable def ref02_Int (n_0 : Int) : Option T_api_Value :=
  some (⟨1, n_0, [], []⟩ : T_api_Value)

noncomputable def plain_Value (a_0 : T_api_Value) (b_1 : T_api_Value) : Option Bool :=
  (gd (true && ((cond (cond (a_0.Kind == b_1.Kind) (a_0.N == b_1.N) false) (a_0.S == b_1.S) false) == true)) (plain_Texts a_0.L b_1.L) false).bind fun (z3 : Bool) =>
  lt (cond (cond (cond (a_0.Kind == b_1.Kind) (a_0.N == b_1.N) false) (a_0.S == b_1.S) false) z3 false) fun (z4 : Bool) =>
  some z4

noncomputable def ref02_Bool (is_0 : Bool) : Option T_api_Value :=
  cond is_0
    (some (⟨2, 1, [], []⟩ : T_api_Value))
    (some (⟨2, 0, [], []⟩ : T_api_Value))

noncomputable def plain_In_L1b (l_0 : (List Bytes)) (s_1 : Bytes) (z2 : Int) : Option (Int ⊕ (Unit ⊕ Bool)) :=
  cond (decide (z2 < (l_0.length : Int)))
    ((idx l_0 z2).bind fun (z3 : Bytes) =>
    cond (z3 == s_1)
      (brk (brk (some true)))
      (some (.inl (IntKind.i64.wrap (z2 + 1)))))
    (brk (some (.inl ())))
noncomputable def plain_In_L1 (l_0 : (List Bytes)) (s_1 : Bytes) (z2 : Int) : Option (Unit ⊕ Bool) := loopO (plain_In_L1b l_0 s_1) z2

noncomputable def plain_In (l_0 : (List Bytes)) (s_1 : Bytes) : Option Bool :=
  both (plain_In_L1 l_0 s_1 0) fun (z1 : Unit) =>
  some false

noncomputable def plain_Rising_L2b (z2 : ((List Bytes) × Int)) (l_0 : (List Bytes)) (z15 : Int) : Option (Int ⊕ Int) :=
  (gd (true && ((decide (z15 < (z2.1.length : Int))) == true)) (idx z2.1 z15) []).bind fun (z16 : Bytes) =>
  (gd (true && ((decide (z15 < (z2.1.length : Int))) == true)) (idx l_0 z2.2) []).bind fun (z17 : Bytes) =>
  cond (cond (decide (z15 < (z2.1.length : Int))) (less z16 z17) false)
    (some (.inl (IntKind.i64.wrap (z15 + 1))))
    (brk (some z15))
noncomputable def plain_Rising_L2 (z2 : ((List Bytes) × Int)) (l_0 : (List Bytes)) (z15 : Int) : Option Int := loopO (plain_Rising_L2b z2 l_0) z15

noncomputable def plain_Rising_L1b (l_0 : (List Bytes)) (z2 : ((List Bytes) × Int)) : Option (((List Bytes) × Int) ⊕ (List Bytes)) :=
  cond (decide (z2.2 < (l_0.length : Int)))
    ((idx l_0 z2.2).bind fun (z3 : Bytes) =>
    (plain_In z2.1 z3).bind fun (z4 : Bool) =>
    cond z4
      (some (.inl (z2.1, IntKind.i64.wrap (z2.2 + 1))))
      ((plain_Rising_L2 z2 l_0 0).bind fun (z5 : Int) =>
      (sub z2.1 0 z5).bind fun (z6 : (List Bytes)) =>
      (app 16 ([] : List Bytes) z6).bind fun (z7 : List Bytes) =>
      (idx l_0 z2.2).bind fun (z9 : Bytes) =>
      (app 16 z7 ([z9] : List Bytes)).bind fun (z10 : List Bytes) =>
      (sub z2.1 z5 (z2.1.length)).bind fun (z12 : (List Bytes)) =>
      (app 16 z10 z12).bind fun (z13 : List Bytes) =>
      some (.inl (z13, IntKind.i64.wrap (z2.2 + 1)))))
    (brk (some z2.1))
noncomputable def plain_Rising_L1 (l_0 : (List Bytes)) (z2 : ((List Bytes) × Int)) : Option (List Bytes) := loopO (plain_Rising_L1b l_0) z2

noncomputable def plain_Rising (l_0 : (List Bytes)) : Option (List Bytes) :=
  (plain_Rising_L1 l_0 (([] : (List Bytes)), 0)).bind fun (z1 : (List Bytes)) =>
  some z1

noncomputable def law02_ValueMakes (n_0 : Int) (is_1 : Bool) (s_2 : Bytes) (l_3 : (List Bytes)) (kind_4 : Int) : Option Bool :=
  (law02_alive ).bind fun (z1 : Bool) =>
  cond (!z1)
    (some false)
    ((value_Int n_0).bind fun (z2 : T_api_Value) =>
    (value_Bool is_1).bind fun (z3 : T_api_Value) =>
    (value_Text s_2).bind fun (z4 : T_api_Value) =>
    (value_Set l_3).bind fun (z5 : T_api_Value) =>
    (value_Zero kind_4).bind fun (z6 : T_api_Value) =>
    (ref02_Int n_0).bind fun (z12 : T_api_Value) =>
    (plain_Value z2 z12).bind fun (z13 : Bool) =>
    (gd (true && ((!z13) == false)) (ref02_Bool is_1) T_api_Value_zero).bind fun (z14 : T_api_Value) =>
    (gd (true && ((!z13) == false)) (plain_Value z3 z14) false).bind fun (z15 : Bool) =>
    (gd (true && ((cond (!z13) true (!z15)) == false)) (plain_Value z4 (⟨3, 0, s_2, []⟩ : T_api_Value)) false).bind fun (z16 : Bool) =>
    (gd (true && ((cond (cond (!z13) true (!z15)) true (!z16)) == false)) (plain_Rising l_3) []).bind fun (z17 : (List Bytes)) =>
    (gd (true && ((cond (cond (!z13) true (!z15)) true (!z16)) == false)) (plain_Value z5 (⟨4, 0, [], z17⟩ : T_api_Value)) false).bind fun (z18 : Bool) =>
    cond (cond (cond (cond (!z13) true (!z15)) true (!z16)) true (!z18))
      (some false)
      ((cond (cond (decide (kind_4 < 1)) true (decide (4 < kind_4)))
        (some 0)
        (some kind_4)).bind fun (z19 : Int) =>
      (plain_Value z6 (⟨z19, 0, [], []⟩ : T_api_Value)).bind fun (z20 : Bool) =>
      (gd ((true && (z20 == true)) && ((z19 == 0) == false)) (value_Check z6) 0).bind fun (z21 : Int) =>
      lt (cond z20 (cond (z19 == 0) true (z21 == 0)) false) fun (z22 : Bool) =>
      some z22))

noncomputable def ref02_side (less_0 : Bool) (more_1 : Bool) : Option Int :=
  cond less_0
    (some (-1))
    (cond more_1
      (some 1)
      (some 0))

noncomputable def ref02_Cmp_L1b (a_0 : T_api_Value) (b_1 : T_api_Value) (z8 : Int) : Option (Int ⊕ (Unit ⊕ Int)) :=
  cond (cond (decide (z8 < (a_0.L.length : Int))) (decide (z8 < (b_1.L.length : Int))) false)
    ((idx a_0.L z8).bind fun (z9 : Bytes) =>
    (idx b_1.L z8).bind fun (z10 : Bytes) =>
    cond (z9 != z10)
      ((idx a_0.L z8).bind fun (z11 : Bytes) =>
      (idx b_1.L z8).bind fun (z12 : Bytes) =>
      (ref02_side (less z11 z12) true).bind fun (z13 : Int) =>
      brk (brk (some z13)))
      (some (.inl (IntKind.i64.wrap (z8 + 1)))))
    (brk (some (.inl ())))
noncomputable def ref02_Cmp_L1 (a_0 : T_api_Value) (b_1 : T_api_Value) (z8 : Int) : Option (Unit ⊕ Int) := loopO (ref02_Cmp_L1b a_0 b_1) z8

noncomputable def ref02_Cmp (a_0 : T_api_Value) (b_1 : T_api_Value) : Option Int :=
  cond (a_0.Kind != b_1.Kind)
    ((ref02_side (decide (a_0.Kind < b_1.Kind)) true).bind fun (z3 : Int) =>
    some z3)
    (cond (a_0.N != b_1.N)
      ((ref02_side (decide (a_0.N < b_1.N)) true).bind fun (z4 : Int) =>
      some z4)
      (cond (a_0.S != b_1.S)
        ((ref02_side (less a_0.S b_1.S) true).bind fun (z5 : Int) =>
        some z5)
        (both (ref02_Cmp_L1 a_0 b_1 0) fun (z6 : Unit) =>
        (ref02_side (decide ((a_0.L.length : Int) < (b_1.L.length : Int))) (decide ((b_1.L.length : Int) < (a_0.L.length : Int)))).bind fun (z7 : Int) =>
        some z7)))

noncomputable def value_Same (a_0 : T_api_Value) (b_1 : T_api_Value) : Option Bool :=
  (value_Cmp a_0 b_1).bind fun (z3 : Int) =>
  some (z3 == 0)

noncomputable def ref02_Has_L1b (v_0 : T_api_Value) (s_1 : Bytes) (z3 : Int) : Option (Int ⊕ (Unit ⊕ Bool)) :=
  cond (decide (z3 < (v_0.L.length : Int)))
    ((idx v_0.L z3).bind fun (z4 : Bytes) =>
    cond (z4 == s_1)
      (brk (brk (some true)))
      (some (.inl (IntKind.i64.wrap (z3 + 1)))))
    (brk (some (.inl ())))
noncomputable def ref02_Has_L1 (v_0 : T_api_Value) (s_1 : Bytes) (z3 : Int) : Option (Unit ⊕ Bool) := loopO (ref02_Has_L1b v_0 s_1) z3

noncomputable def ref02_Has (v_0 : T_api_Value) (s_1 : Bytes) : Option Bool :=
  both (ref02_Has_L1 v_0 s_1 0) fun (z2 : Unit) =>
  some false

noncomputable def value_Size (v_0 : T_api_Value) : Option Int :=
  cond (v_0.Kind == 3)
    (some (v_0.S.length : Int))
    (cond (v_0.Kind == 4)
      (some (v_0.L.length : Int))
      (some 0))

noncomputable def ref02_Size (v_0 : T_api_Value) : Option Int :=
  cond (v_0.Kind == 3)
    (some (v_0.S.length : Int))
    (cond (v_0.Kind == 4)
      (some (v_0.L.length : Int))
      (some 0))

noncomputable def law02_ValueCompares (a_0 : T_api_Value) (b_1 : T_api_Value) (s_2 : Bytes) : Option Bool :=
  (law02_alive ).bind fun (z3 : Bool) =>
  cond (!z3)
    (some false)
    ((value_Cmp a_0 b_1).bind fun (z4 : Int) =>
    (ref02_Cmp a_0 b_1).bind fun (z5 : Int) =>
    (gd (true && ((z4 == z5) == true)) (value_Same a_0 b_1) false).bind fun (z6 : Bool) =>
    (gd (true && ((z4 == z5) == true)) (plain_Value a_0 b_1) false).bind fun (z7 : Bool) =>
    (gd (true && ((cond (z4 == z5) (z6 == z7) false) == true)) (value_Has a_0 s_2) false).bind fun (z8 : Bool) =>
    (gd (true && ((cond (z4 == z5) (z6 == z7) false) == true)) (ref02_Has a_0 s_2) false).bind fun (z9 : Bool) =>
    (gd (true && ((cond (cond (z4 == z5) (z6 == z7) false) (z8 == z9) false) == true)) (value_Size a_0) 0).bind fun (z10 : Int) =>
    (gd (true && ((cond (cond (z4 == z5) (z6 == z7) false) (z8 == z9) false) == true)) (ref02_Size a_0) 0).bind fun (z11 : Int) =>
    some (cond (cond (cond (z4 == z5) (z6 == z7) false) (z8 == z9) false) (z10 == z11) false))

noncomputable def law02_ValueOrders (a_0 : T_api_Value) (b_1 : T_api_Value) (c_2 : T_api_Value) : Option Bool :=
  (law02_alive ).bind fun (z4 : Bool) =>
  cond (!z4)
    (some false)
    ((value_Cmp a_0 b_1).bind fun (z5 : Int) =>
    (value_Cmp b_1 c_2).bind fun (z6 : Int) =>
    (value_Cmp a_0 c_2).bind fun (z7 : Int) =>
    (value_Cmp b_1 a_0).bind fun (z8 : Int) =>
    (gd (true && ((z8 != (IntKind.i64.wrap (0 - z5))) == false)) (value_Same a_0 b_1) false).bind fun (z9 : Bool) =>
    (gd (true && ((cond (z8 != (IntKind.i64.wrap (0 - z5))) true ((z5 == 0) != z9)) == false)) (value_Cmp a_0 a_0) 0).bind fun (z10 : Int) =>
    cond (cond (cond (z8 != (IntKind.i64.wrap (0 - z5))) true ((z5 == 0) != z9)) true (z10 != 0))
      (some false)
      (lt (cond (cond (decide (0 < z5)) true (decide (0 < z6))) true (cond (decide (z7 ≤ 0)) (cond (decide (z7 < 0)) true (cond (z5 == 0) (z6 == 0) false)) false)) fun (z11 : Bool) =>
      some z11))

noncomputable def law02_ValueSets_L1b (l_0 : (List Bytes)) (z14 : (Int × (List Bytes))) : Option ((Int × (List Bytes)) ⊕ (List Bytes)) :=
  cond (decide (0 ≤ z14.1))
    ((idx l_0 z14.1).bind fun (z15 : Bytes) =>
    (app 16 z14.2 ([z15] : List Bytes)).bind fun (z16 : List Bytes) =>
    some (.inl (IntKind.i64.wrap (z14.1 - 1), z16)))
    (brk (some z14.2))
noncomputable def law02_ValueSets_L1 (l_0 : (List Bytes)) (z14 : (Int × (List Bytes))) : Option (List Bytes) := loopO (law02_ValueSets_L1b l_0) z14

noncomputable def law02_ValueSets (l_0 : (List Bytes)) (s_1 : Bytes) : Option Bool :=
  (law02_alive ).bind fun (z1 : Bool) =>
  cond (!z1)
    (some false)
    ((value_Set l_0).bind fun (z2 : T_api_Value) =>
    lt (IntKind.i64.wrap ((l_0.length : Int) - 1)) fun (i4 : Int) =>
    (law02_ValueSets_L1 l_0 (i4, ([] : (List Bytes)))).bind fun (z5 : (List Bytes)) =>
    (app 16 z5 l_0).bind fun (z6 : List Bytes) =>
    (value_Set z6).bind fun (z8 : T_api_Value) =>
    (value_Same z2 z8).bind fun (z10 : Bool) =>
    (gd (true && (z10 == true)) (value_Has z2 s_1) false).bind fun (z11 : Bool) =>
    (gd (true && (z10 == true)) (plain_In l_0 s_1) false).bind fun (z12 : Bool) =>
    (gd (true && ((cond z10 (z11 == z12) false) == true)) (value_Size z2) 0).bind fun (z13 : Int) =>
    some (cond (cond (cond z10 (z11 == z12) false) (z13 == (z2.L.length : Int)) false) (decide ((z2.L.length : Int) ≤ (l_0.length : Int))) false))

end Go.Proofs.Ytdbldkkbljngeaa.M
