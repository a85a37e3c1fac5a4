/- The functions, as plain Lean: written by gen2.py. -/
import Derived.Test.YtiaackeooiemjaaEng
namespace Go.Proofs.Ytiaackeooiemjaa.M
open Go.Eng Go
set_option linter.unusedVariables false

structure T_lattice_Label where
  Level : Int
  Groups : (List Bytes)
def T_lattice_Label_tup (x : T_lattice_Label) : Int × (List Bytes) × Unit := (x.Level, x.Groups, ())
def T_lattice_Label_rep0 := (Rep.cons (Rep.int .i64) (Rep.cons ((Rep.str).slice) Rep.nil0))
def T_lattice_Label_rep : Rep T_lattice_Label := T_lattice_Label_rep0.iso T_lattice_Label_tup
def T_lattice_Label_zero : T_lattice_Label := ⟨0, []⟩
instance : Inhabited T_lattice_Label := ⟨T_lattice_Label_zero⟩

noncomputable def slices_Grow_114 (xs : (List Bytes)) (n : Int) : Option (List Bytes) := growS 16 xs n

noncomputable def slices_Concat_string_string_L1b (slices_0 : (List (List Bytes))) (z6 : (Int × (List Bytes))) : Option ((Int × (List Bytes)) ⊕ (List Bytes)) :=
  cond (decide (z6.1 < (slices_0.length : Int)))
    ((idx slices_0 z6.1).bind fun (z7 : (List Bytes)) =>
    (app 16 z6.2 z7).bind fun (z8 : List Bytes) =>
    some (.inl (IntKind.i64.wrap (z6.1 + 1), z8)))
    (brk (some z6.2))
noncomputable def slices_Concat_string_string_L1 (slices_0 : (List (List Bytes))) (z6 : (Int × (List Bytes))) : Option (List Bytes) := loopO (slices_Concat_string_string_L1b slices_0) z6

noncomputable def slices_Concat_string_string_L2b (slices_0 : (List (List Bytes))) (z10 : (Int × Int)) : Option ((Int × Int) ⊕ Int) :=
  cond (decide (z10.2 < (slices_0.length : Int)))
    ((idx slices_0 z10.2).bind fun (z11 : (List Bytes)) =>
    lt (IntKind.i64.wrap (z10.1 + (z11.length : Int))) fun (size12 : Int) =>
    cond (decide (size12 < 0))
      (none)
      (some (.inl (size12, IntKind.i64.wrap (z10.2 + 1)))))
    (brk (some z10.1))
noncomputable def slices_Concat_string_string_L2 (slices_0 : (List (List Bytes))) (z10 : (Int × Int)) : Option Int := loopO (slices_Concat_string_string_L2b slices_0) z10

noncomputable def slices_Concat_string_string (slices_0 : (List (List Bytes))) : Option (List Bytes) :=
  (slices_Concat_string_string_L2 slices_0 (0, 0)).bind fun (z1 : Int) =>
  (slices_Grow_114 ([] : List Bytes) z1).bind fun (z2 : (List Bytes)) =>
  (slices_Concat_string_string_L1 slices_0 (0, z2)).bind fun (z5 : (List Bytes)) =>
  some z5

noncomputable def slices_SortS (xs : (List Bytes)) : Option (List Bytes) := sortS xs

noncomputable def slices_CompactS (xs : (List Bytes)) : Option (List Bytes) := compactS xs

noncomputable def lattice_inOrder_string (l_0 : (List (List Bytes))) : Option (List Bytes) :=
  (slices_Concat_string_string l_0).bind fun (z1 : (List Bytes)) =>
  (slices_SortS z1).bind fun (z4 : (List Bytes)) =>
  (slices_CompactS z4).bind fun (z6 : (List Bytes)) =>
  some z6

noncomputable def lattice_Join (a_0 : T_lattice_Label) (b_1 : T_lattice_Label) : Option T_lattice_Label :=
  (lattice_inOrder_string ([a_0.Groups, b_1.Groups] : List (List Bytes))).bind fun (z4 : (List Bytes)) =>
  some (⟨max a_0.Level b_1.Level, z4⟩ : T_lattice_Label)

noncomputable def plain_Texts_L1b (a_0 : (List Bytes)) (b_1 : (List Bytes)) (z2 : Int) : Option (Int ⊕ (Unit ⊕ Bool)) :=
  cond (decide (z2 < (a_0.length : Int)))
    ((idx a_0 z2).bind fun (z3 : Bytes) =>
    (idx b_1 z2).bind fun (z4 : Bytes) =>
    cond (z3 != z4)
      (brk (brk (some false)))
      (some (.inl (IntKind.i64.wrap (z2 + 1)))))
    (brk (some (.inl ())))
noncomputable def plain_Texts_L1 (a_0 : (List Bytes)) (b_1 : (List Bytes)) (z2 : Int) : Option (Unit ⊕ Bool) := loopO (plain_Texts_L1b a_0 b_1) z2

noncomputable def plain_Texts (a_0 : (List Bytes)) (b_1 : (List Bytes)) : Option Bool :=
  cond ((a_0.length : Int) != (b_1.length : Int))
    (some false)
    (both (plain_Texts_L1 a_0 b_1 0) fun (z1 : Unit) =>
    some true)

noncomputable def lattice_Under (a_0 : T_lattice_Label) (b_1 : T_lattice_Label) : Option Bool :=
  (gd (true && ((decide (a_0.Level ≤ b_1.Level)) == true)) (lattice_inOrder_string ([a_0.Groups, b_1.Groups] : List (List Bytes))) []).bind fun (z3 : (List Bytes)) =>
  (gd (true && ((decide (a_0.Level ≤ b_1.Level)) == true)) (lattice_inOrder_string ([b_1.Groups] : List (List Bytes))) []).bind fun (z5 : (List Bytes)) =>
  some (cond (decide (a_0.Level ≤ b_1.Level)) ((z3.length : Int) == (z5.length : Int)) false)

noncomputable def slices_Equal_string_string_L1b (s1_0 : (List Bytes)) (s2_1 : (List Bytes)) (z2 : Int) : Option (Int ⊕ (Unit ⊕ Bool)) :=
  cond (decide (z2 < (s1_0.length : Int)))
    ((idx s1_0 z2).bind fun (z3 : Bytes) =>
    (idx s2_1 z2).bind fun (z4 : Bytes) =>
    cond (z3 != z4)
      (brk (brk (some false)))
      (some (.inl (IntKind.i64.wrap (z2 + 1)))))
    (brk (some (.inl ())))
noncomputable def slices_Equal_string_string_L1 (s1_0 : (List Bytes)) (s2_1 : (List Bytes)) (z2 : Int) : Option (Unit ⊕ Bool) := loopO (slices_Equal_string_string_L1b s1_0 s2_1) z2

noncomputable def slices_Equal_string_string (s1_0 : (List Bytes)) (s2_1 : (List Bytes)) : Option Bool :=
  cond ((s1_0.length : Int) != (s2_1.length : Int))
    (some false)
    (both (slices_Equal_string_string_L1 s1_0 s2_1 0) fun (z1 : Unit) =>
    some true)

noncomputable def lex_begins (c_0 : Int) : Option Bool :=
  lt (cond (cond (cond (decide (97 ≤ c_0)) (decide (c_0 ≤ 122)) false) true (cond (decide (65 ≤ c_0)) (decide (c_0 ≤ 90)) false)) true (c_0 == 95)) fun (z1 : Bool) =>
  some z1

noncomputable def lex_digit (c_0 : Int) : Option Bool :=
  lt (cond (decide (48 ≤ c_0)) (decide (c_0 ≤ 57)) false) fun (z1 : Bool) =>
  some z1

noncomputable def lex_run_L1b (s_0 : Bytes) (z2 : Int) : Option (Int ⊕ Int) :=
  (gd (true && ((decide (z2 < (s_0.length : Int))) == true)) (idxb s_0 z2) 0).bind fun (z3 : Int) =>
  (gd (true && ((decide (z2 < (s_0.length : Int))) == true)) (lex_begins z3) false).bind fun (z4 : Bool) =>
  (gd ((true && ((decide (z2 < (s_0.length : Int))) == true)) && (z4 == false)) (idxb s_0 z2) 0).bind fun (z5 : Int) =>
  (gd ((true && ((decide (z2 < (s_0.length : Int))) == true)) && (z4 == false)) (lex_digit z5) false).bind fun (z6 : Bool) =>
  cond (cond (decide (z2 < (s_0.length : Int))) (cond z4 true z6) false)
    (some (.inl (IntKind.i64.wrap (z2 + 1))))
    (brk (some z2))
noncomputable def lex_run_L1 (s_0 : Bytes) (z2 : Int) : Option Int := loopO (lex_run_L1b s_0) z2

noncomputable def lex_run (s_0 : Bytes) : Option Int :=
  (lex_run_L1 s_0 0).bind fun (z1 : Int) =>
  some z1

noncomputable def lex_Name (s_0 : Bytes) : Option Bool :=
  (gd (true && ((cond (s_0 != ([] : Bytes)) (decide ((s_0.length : Int) ≤ 16)) false) == true)) (idxb s_0 0) 0).bind fun (z1 : Int) =>
  (gd (true && ((cond (s_0 != ([] : Bytes)) (decide ((s_0.length : Int) ≤ 16)) false) == true)) (lex_begins z1) false).bind fun (z2 : Bool) =>
  (gd (true && ((cond (cond (s_0 != ([] : Bytes)) (decide ((s_0.length : Int) ≤ 16)) false) z2 false) == true)) (lex_run s_0) 0).bind fun (z3 : Int) =>
  lt (cond (cond (cond (s_0 != ([] : Bytes)) (decide ((s_0.length : Int) ≤ 16)) false) z2 false) (z3 == (s_0.length : Int)) false) fun (z4 : Bool) =>
  some z4

noncomputable def lattice_Check_L1b (a_0 : T_lattice_Label) (z6 : Int) : Option (Int ⊕ (Unit ⊕ Int)) :=
  cond (decide (z6 < (a_0.Groups.length : Int)))
    ((idx a_0.Groups z6).bind fun (z7 : Bytes) =>
    (lex_Name z7).bind fun (z8 : Bool) =>
    cond (!z8)
      (brk (brk (some 16)))
      (some (.inl (IntKind.i64.wrap (z6 + 1)))))
    (brk (some (.inl ())))
noncomputable def lattice_Check_L1 (a_0 : T_lattice_Label) (z6 : Int) : Option (Unit ⊕ Int) := loopO (lattice_Check_L1b a_0) z6

noncomputable def lattice_Check (a_0 : T_lattice_Label) : Option Int :=
  cond (cond (decide (a_0.Level < 0)) true (decide (15 < a_0.Level)))
    (some 4)
    (cond (decide (8 < (a_0.Groups.length : Int)))
      (some 3)
      ((lattice_inOrder_string ([a_0.Groups] : List (List Bytes))).bind fun (z2 : (List Bytes)) =>
      (slices_Equal_string_string a_0.Groups z2).bind fun (z4 : Bool) =>
      cond (!z4)
        (some 16)
        (both (lattice_Check_L1 a_0 0) fun (z5 : Unit) =>
        some 0)))

noncomputable def slices_Index_string_string_L1b (s_0 : (List Bytes)) (v_1 : Bytes) (z2 : Int) : Option (Int ⊕ (Unit ⊕ Int)) :=
  cond (decide (z2 < (s_0.length : Int)))
    ((idx s_0 z2).bind fun (z3 : Bytes) =>
    cond (v_1 == z3)
      (brk (brk (some z2)))
      (some (.inl (IntKind.i64.wrap (z2 + 1)))))
    (brk (some (.inl ())))
noncomputable def slices_Index_string_string_L1 (s_0 : (List Bytes)) (v_1 : Bytes) (z2 : Int) : Option (Unit ⊕ Int) := loopO (slices_Index_string_string_L1b s_0 v_1) z2

noncomputable def slices_Index_string_string (s_0 : (List Bytes)) (v_1 : Bytes) : Option Int :=
  both (slices_Index_string_string_L1 s_0 v_1 0) fun (z1 : Unit) =>
  some (-1)

noncomputable def slices_Contains_string_string (s_0 : (List Bytes)) (v_1 : Bytes) : Option Bool :=
  (slices_Index_string_string s_0 v_1).bind fun (z1 : Int) =>
  some (decide (0 ≤ z1))

noncomputable def lattice_Meet_L1b (a_0 : T_lattice_Label) (b_1 : T_lattice_Label) (z8 : (Int × (List Bytes))) : Option ((Int × (List Bytes)) ⊕ (List Bytes)) :=
  cond (decide (z8.1 < (a_0.Groups.length : Int)))
    ((idx a_0.Groups z8.1).bind fun (z9 : Bytes) =>
    (slices_Contains_string_string b_1.Groups z9).bind fun (z10 : Bool) =>
    cond z10
      ((app 16 z8.2 ([z9] : List Bytes)).bind fun (z11 : List Bytes) =>
      some (.inl (IntKind.i64.wrap (z8.1 + 1), z11)))
      (some (.inl (IntKind.i64.wrap (z8.1 + 1), z8.2))))
    (brk (some z8.2))
noncomputable def lattice_Meet_L1 (a_0 : T_lattice_Label) (b_1 : T_lattice_Label) (z8 : (Int × (List Bytes))) : Option (List Bytes) := loopO (lattice_Meet_L1b a_0 b_1) z8

noncomputable def lattice_Meet (a_0 : T_lattice_Label) (b_1 : T_lattice_Label) : Option T_lattice_Label :=
  (lattice_Meet_L1 a_0 b_1 (0, ([] : (List Bytes)))).bind fun (z4 : (List Bytes)) =>
  (lattice_inOrder_string ([z4] : List (List Bytes))).bind fun (z6 : (List Bytes)) =>
  some (⟨min a_0.Level b_1.Level, z6⟩ : T_lattice_Label)

noncomputable def lattice_Read (subject_0 : T_lattice_Label) (object_1 : T_lattice_Label) : Option Bool :=
  (lattice_Under object_1 subject_0).bind fun (z3 : Bool) =>
  some z3

noncomputable def lattice_Write (subject_0 : T_lattice_Label) (object_1 : T_lattice_Label) : Option Bool :=
  (lattice_Under subject_0 object_1).bind fun (z3 : Bool) =>
  some z3

noncomputable def lattice_Range (low_0 : T_lattice_Label) (high_1 : T_lattice_Label) (a_2 : T_lattice_Label) : Option Bool :=
  (lattice_Under low_0 a_2).bind fun (z4 : Bool) =>
  (gd (true && (z4 == true)) (lattice_Under a_2 high_1) false).bind fun (z5 : Bool) =>
  some (cond z4 z5 false)

noncomputable def law32_alive  : Option Bool :=
  (lattice_Join (⟨1, ([([120] : Bytes)] : List Bytes)⟩ : T_lattice_Label) (⟨2, ([([121] : Bytes)] : List Bytes)⟩ : T_lattice_Label)).bind fun (z3 : T_lattice_Label) =>
  (gd (true && ((z3.Level == 2) == true)) (plain_Texts z3.Groups ([([120] : Bytes), ([121] : Bytes)] : List Bytes)) false).bind fun (z5 : Bool) =>
  (gd (true && ((cond (z3.Level == 2) z5 false) == true)) (lattice_Under (⟨1, ([([120] : Bytes)] : List Bytes)⟩ : T_lattice_Label) z3) false).bind fun (z6 : Bool) =>
  (gd (true && ((cond (cond (z3.Level == 2) z5 false) z6 false) == true)) (lattice_Under z3 (⟨1, ([([120] : Bytes)] : List Bytes)⟩ : T_lattice_Label)) false).bind fun (z7 : Bool) =>
  (gd (true && ((cond (cond (cond (z3.Level == 2) z5 false) z6 false) (!z7) false) == true)) (lattice_Check (⟨1, ([([120] : Bytes)] : List Bytes)⟩ : T_lattice_Label)) 0).bind fun (z8 : Int) =>
  (gd (true && ((cond (cond (cond (cond (z3.Level == 2) z5 false) z6 false) (!z7) false) (z8 == 0) false) == true)) (lattice_Check (⟨(-1), []⟩ : T_lattice_Label)) 0).bind fun (z9 : Int) =>
  (gd (true && ((cond (cond (cond (cond (cond (z3.Level == 2) z5 false) z6 false) (!z7) false) (z8 == 0) false) (z9 == 4) false) == true)) (lattice_Meet (⟨1, ([([120] : Bytes)] : List Bytes)⟩ : T_lattice_Label) (⟨2, ([([121] : Bytes)] : List Bytes)⟩ : T_lattice_Label)) T_lattice_Label_zero).bind fun (z10 : T_lattice_Label) =>
  (gd (true && ((cond (cond (cond (cond (cond (cond (z3.Level == 2) z5 false) z6 false) (!z7) false) (z8 == 0) false) (z9 == 4) false) (z10.Level == 1) false) == true)) (lattice_Read z3 (⟨1, ([([120] : Bytes)] : List Bytes)⟩ : T_lattice_Label)) false).bind fun (z11 : Bool) =>
  (gd (true && ((cond (cond (cond (cond (cond (cond (cond (z3.Level == 2) z5 false) z6 false) (!z7) false) (z8 == 0) false) (z9 == 4) false) (z10.Level == 1) false) z11 false) == true)) (lattice_Write (⟨1, ([([120] : Bytes)] : List Bytes)⟩ : T_lattice_Label) z3) false).bind fun (z12 : Bool) =>
  (gd (true && ((cond (cond (cond (cond (cond (cond (cond (cond (z3.Level == 2) z5 false) z6 false) (!z7) false) (z8 == 0) false) (z9 == 4) false) (z10.Level == 1) false) z11 false) z12 false) == true)) (lattice_Range (⟨1, ([([120] : Bytes)] : List Bytes)⟩ : T_lattice_Label) z3 (⟨2, ([([121] : Bytes)] : List Bytes)⟩ : T_lattice_Label)) false).bind fun (z13 : Bool) =>
  lt (cond (cond (cond (cond (cond (cond (cond (cond (cond (z3.Level == 2) z5 false) z6 false) (!z7) false) (z8 == 0) false) (z9 == 4) false) (z10.Level == 1) false) z11 false) z12 false) (z13 == false) false) fun (z14 : Bool) =>
  some z14

noncomputable def plain_In_L1b (l_0 : (List Bytes)) (s_1 : Bytes) (z2 : Int) : Option (Int ⊕ (Unit ⊕ Bool)) :=
  cond (decide (z2 < (l_0.length : Int)))
    ((idx l_0 z2).bind fun (z3 : Bytes) =>
    cond (z3 == s_1)
      (brk (brk (some true)))
      (some (.inl (IntKind.i64.wrap (z2 + 1)))))
    (brk (some (.inl ())))
noncomputable def plain_In_L1 (l_0 : (List Bytes)) (s_1 : Bytes) (z2 : Int) : Option (Unit ⊕ Bool) := loopO (plain_In_L1b l_0 s_1) z2

noncomputable def plain_In (l_0 : (List Bytes)) (s_1 : Bytes) : Option Bool :=
  both (plain_In_L1 l_0 s_1 0) fun (z1 : Unit) =>
  some false

noncomputable def law32_all_L1b (l_0 : (List Bytes)) (m_1 : (List Bytes)) (z2 : Int) : Option (Int ⊕ (Unit ⊕ Bool)) :=
  cond (decide (z2 < (l_0.length : Int)))
    ((idx l_0 z2).bind fun (z3 : Bytes) =>
    (plain_In m_1 z3).bind fun (z4 : Bool) =>
    cond (!z4)
      (brk (brk (some false)))
      (some (.inl (IntKind.i64.wrap (z2 + 1)))))
    (brk (some (.inl ())))
noncomputable def law32_all_L1 (l_0 : (List Bytes)) (m_1 : (List Bytes)) (z2 : Int) : Option (Unit ⊕ Bool) := loopO (law32_all_L1b l_0 m_1) z2

noncomputable def law32_all (l_0 : (List Bytes)) (m_1 : (List Bytes)) : Option Bool :=
  both (law32_all_L1 l_0 m_1 0) fun (z1 : Unit) =>
  some true

noncomputable def plain_Rising_L2b (z2 : ((List Bytes) × Int)) (l_0 : (List Bytes)) (z15 : Int) : Option (Int ⊕ Int) :=
  (gd (true && ((decide (z15 < (z2.1.length : Int))) == true)) (idx z2.1 z15) []).bind fun (z16 : Bytes) =>
  (gd (true && ((decide (z15 < (z2.1.length : Int))) == true)) (idx l_0 z2.2) []).bind fun (z17 : Bytes) =>
  cond (cond (decide (z15 < (z2.1.length : Int))) (less z16 z17) false)
    (some (.inl (IntKind.i64.wrap (z15 + 1))))
    (brk (some z15))
noncomputable def plain_Rising_L2 (z2 : ((List Bytes) × Int)) (l_0 : (List Bytes)) (z15 : Int) : Option Int := loopO (plain_Rising_L2b z2 l_0) z15

noncomputable def plain_Rising_L1b (l_0 : (List Bytes)) (z2 : ((List Bytes) × Int)) : Option (((List Bytes) × Int) ⊕ (List Bytes)) :=
  cond (decide (z2.2 < (l_0.length : Int)))
    ((idx l_0 z2.2).bind fun (z3 : Bytes) =>
    (plain_In z2.1 z3).bind fun (z4 : Bool) =>
    cond z4
      (some (.inl (z2.1, IntKind.i64.wrap (z2.2 + 1))))
      ((plain_Rising_L2 z2 l_0 0).bind fun (z5 : Int) =>
      (sub z2.1 0 z5).bind fun (z6 : (List Bytes)) =>
      (app 16 ([] : List Bytes) z6).bind fun (z7 : List Bytes) =>
      (idx l_0 z2.2).bind fun (z9 : Bytes) =>
      (app 16 z7 ([z9] : List Bytes)).bind fun (z10 : List Bytes) =>
      (sub z2.1 z5 (z2.1.length)).bind fun (z12 : (List Bytes)) =>
      (app 16 z10 z12).bind fun (z13 : List Bytes) =>
      some (.inl (z13, IntKind.i64.wrap (z2.2 + 1)))))
    (brk (some z2.1))
noncomputable def plain_Rising_L1 (l_0 : (List Bytes)) (z2 : ((List Bytes) × Int)) : Option (List Bytes) := loopO (plain_Rising_L1b l_0) z2

noncomputable def plain_Rising (l_0 : (List Bytes)) : Option (List Bytes) :=
  (plain_Rising_L1 l_0 (([] : (List Bytes)), 0)).bind fun (z1 : (List Bytes)) =>
  some z1

noncomputable def law32_same (a_0 : T_lattice_Label) (b_1 : T_lattice_Label) : Option Bool :=
  (gd (true && ((a_0.Level == b_1.Level) == true)) (plain_Texts a_0.Groups b_1.Groups) false).bind fun (z3 : Bool) =>
  some (cond (a_0.Level == b_1.Level) z3 false)

noncomputable def ref06_head (c_0 : Int) : Option Bool :=
  lt (cond (cond (cond (decide (97 ≤ c_0)) (decide (c_0 ≤ 122)) false) true (cond (decide (65 ≤ c_0)) (decide (c_0 ≤ 90)) false)) true (c_0 == 95)) fun (z1 : Bool) =>
  some z1

noncomputable def ref06_tail (c_0 : Int) : Option Bool :=
  (ref06_head c_0).bind fun (z1 : Bool) =>
  lt (cond z1 true (cond (decide (48 ≤ c_0)) (decide (c_0 ≤ 57)) false)) fun (z2 : Bool) =>
  some z2

noncomputable def ref06_Name_L1b (s_0 : Bytes) (z4 : Int) : Option (Int ⊕ (Unit ⊕ Bool)) :=
  cond (decide (z4 < (s_0.length : Int)))
    ((idxb s_0 z4).bind fun (z5 : Int) =>
    (ref06_tail z5).bind fun (z6 : Bool) =>
    cond (!z6)
      (brk (brk (some false)))
      (some (.inl (IntKind.i64.wrap (z4 + 1)))))
    (brk (some (.inl ())))
noncomputable def ref06_Name_L1 (s_0 : Bytes) (z4 : Int) : Option (Unit ⊕ Bool) := loopO (ref06_Name_L1b s_0) z4

noncomputable def ref06_Name (s_0 : Bytes) : Option Bool :=
  (gd (true && ((cond (s_0 == ([] : Bytes)) true (decide (16 < (s_0.length : Int)))) == false)) (idxb s_0 0) 0).bind fun (z1 : Int) =>
  (gd (true && ((cond (s_0 == ([] : Bytes)) true (decide (16 < (s_0.length : Int)))) == false)) (ref06_head z1) false).bind fun (z2 : Bool) =>
  cond (cond (cond (s_0 == ([] : Bytes)) true (decide (16 < (s_0.length : Int)))) true (!z2))
    (some false)
    (both (ref06_Name_L1 s_0 1) fun (z3 : Unit) =>
    some true)

noncomputable def law32_may_L1b (a_0 : T_lattice_Label) (z3 : Int) : Option (Int ⊕ (Unit ⊕ Int)) :=
  cond (decide (z3 < (a_0.Groups.length : Int)))
    ((idx a_0.Groups z3).bind fun (z4 : Bytes) =>
    (ref06_Name z4).bind fun (z5 : Bool) =>
    (gd ((true && ((!z5) == false)) && ((decide (0 < z3)) == true)) (idx a_0.Groups z3) []).bind fun (z6 : Bytes) =>
    (gd ((true && ((!z5) == false)) && ((decide (0 < z3)) == true)) (idx a_0.Groups (IntKind.i64.wrap (z3 - 1))) []).bind fun (z7 : Bytes) =>
    cond (cond (!z5) true (cond (decide (0 < z3)) (less z6 z7 || z6 == z7) false))
      (brk (brk (some 16)))
      (some (.inl (IntKind.i64.wrap (z3 + 1)))))
    (brk (some (.inl ())))
noncomputable def law32_may_L1 (a_0 : T_lattice_Label) (z3 : Int) : Option (Unit ⊕ Int) := loopO (law32_may_L1b a_0) z3

noncomputable def law32_may (a_0 : T_lattice_Label) : Option Int :=
  cond (cond (decide (a_0.Level < 0)) true (decide (15 < a_0.Level)))
    (some 4)
    (cond (decide (8 < (a_0.Groups.length : Int)))
      (some 3)
      (both (law32_may_L1 a_0 0) fun (z2 : Unit) =>
      some 0))

noncomputable def law32_LatticeTells_L1b (a_0 : T_lattice_Label) (b_1 : T_lattice_Label) (z30 : (Int × (List Bytes))) : Option ((Int × (List Bytes)) ⊕ (List Bytes)) :=
  cond (decide (z30.1 < (a_0.Groups.length : Int)))
    ((idx a_0.Groups z30.1).bind fun (z31 : Bytes) =>
    (plain_In b_1.Groups z31).bind fun (z32 : Bool) =>
    cond z32
      ((idx a_0.Groups z30.1).bind fun (z33 : Bytes) =>
      (app 16 z30.2 ([z33] : List Bytes)).bind fun (z34 : List Bytes) =>
      some (.inl (IntKind.i64.wrap (z30.1 + 1), z34)))
      (some (.inl (IntKind.i64.wrap (z30.1 + 1), z30.2))))
    (brk (some z30.2))
noncomputable def law32_LatticeTells_L1 (a_0 : T_lattice_Label) (b_1 : T_lattice_Label) (z30 : (Int × (List Bytes))) : Option (List Bytes) := loopO (law32_LatticeTells_L1b a_0 b_1) z30

noncomputable def law32_LatticeTells (a_0 : T_lattice_Label) (b_1 : T_lattice_Label) (c_2 : T_lattice_Label) : Option Bool :=
  (law32_alive ).bind fun (z4 : Bool) =>
  cond (!z4)
    (some false)
    ((gd (true && ((decide (a_0.Level ≤ b_1.Level)) == true)) (law32_all a_0.Groups b_1.Groups) false).bind fun (z5 : Bool) =>
    lt (cond (decide (a_0.Level ≤ b_1.Level)) z5 false) fun (under6 : Bool) =>
    (lattice_Join a_0 b_1).bind fun (z8 : T_lattice_Label) =>
    (lattice_Meet a_0 b_1).bind fun (z9 : T_lattice_Label) =>
    (app 16 ([] : List Bytes) a_0.Groups).bind fun (z12 : List Bytes) =>
    (app 16 z12 b_1.Groups).bind fun (z14 : List Bytes) =>
    (law32_LatticeTells_L1 a_0 b_1 (0, ([] : (List Bytes)))).bind fun (z16 : (List Bytes)) =>
    (plain_Rising z14).bind fun (z18 : (List Bytes)) =>
    (law32_same z8 (⟨max a_0.Level b_1.Level, z18⟩ : T_lattice_Label)).bind fun (z19 : Bool) =>
    (gd (true && ((!z19) == false)) (plain_Rising z16) []).bind fun (z20 : (List Bytes)) =>
    (gd (true && ((!z19) == false)) (law32_same z9 (⟨min a_0.Level b_1.Level, z20⟩ : T_lattice_Label)) false).bind fun (z21 : Bool) =>
    cond (cond (!z19) true (!z21))
      (some false)
      ((lattice_Check a_0).bind fun (z22 : Int) =>
      (law32_may a_0).bind fun (z23 : Int) =>
      (gd (true && ((z22 == z23) == true)) (lattice_Under a_0 b_1) false).bind fun (z24 : Bool) =>
      (gd (true && ((cond (z22 == z23) (z24 == under6) false) == true)) (lattice_Write a_0 b_1) false).bind fun (z25 : Bool) =>
      (gd (true && ((cond (cond (z22 == z23) (z24 == under6) false) (z25 == under6) false) == true)) (lattice_Read b_1 a_0) false).bind fun (z26 : Bool) =>
      (gd (true && ((cond (cond (cond (z22 == z23) (z24 == under6) false) (z25 == under6) false) (z26 == under6) false) == true)) (lattice_Range a_0 b_1 c_2) false).bind fun (z27 : Bool) =>
      (gd ((true && ((cond (cond (cond (z22 == z23) (z24 == under6) false) (z25 == under6) false) (z26 == under6) false) == true)) && ((cond (decide (a_0.Level ≤ c_2.Level)) (decide (c_2.Level ≤ b_1.Level)) false) == true)) (law32_all a_0.Groups c_2.Groups) false).bind fun (z28 : Bool) =>
      (gd ((true && ((cond (cond (cond (z22 == z23) (z24 == under6) false) (z25 == under6) false) (z26 == under6) false) == true)) && ((cond (cond (decide (a_0.Level ≤ c_2.Level)) (decide (c_2.Level ≤ b_1.Level)) false) z28 false) == true)) (law32_all c_2.Groups b_1.Groups) false).bind fun (z29 : Bool) =>
      some (cond (cond (cond (cond (z22 == z23) (z24 == under6) false) (z25 == under6) false) (z26 == under6) false) (z27 == (cond (cond (cond (decide (a_0.Level ≤ c_2.Level)) (decide (c_2.Level ≤ b_1.Level)) false) z28 false) z29 false)) false)))

noncomputable def law32_LatticeLaws (a_0 : T_lattice_Label) (b_1 : T_lattice_Label) (c_2 : T_lattice_Label) : Option Bool :=
  (law32_alive ).bind fun (z4 : Bool) =>
  cond (!z4)
    (some false)
    ((law32_may a_0).bind fun (z5 : Int) =>
    (gd (true && ((z5 != 0) == false)) (law32_may b_1) 0).bind fun (z6 : Int) =>
    (gd (true && ((cond (z5 != 0) true (z6 != 0)) == false)) (law32_may c_2) 0).bind fun (z7 : Int) =>
    cond (cond (cond (z5 != 0) true (z6 != 0)) true (z7 != 0))
      (some true)
      ((lattice_Join a_0 b_1).bind fun (z8 : T_lattice_Label) =>
      (lattice_Join b_1 a_0).bind fun (z9 : T_lattice_Label) =>
      (law32_same z8 z9).bind fun (z10 : Bool) =>
      (gd (true && ((!z10) == false)) (lattice_Meet a_0 b_1) T_lattice_Label_zero).bind fun (z11 : T_lattice_Label) =>
      (gd (true && ((!z10) == false)) (lattice_Meet b_1 a_0) T_lattice_Label_zero).bind fun (z12 : T_lattice_Label) =>
      (gd (true && ((!z10) == false)) (law32_same z11 z12) false).bind fun (z13 : Bool) =>
      (gd (true && ((cond (!z10) true (!z13)) == false)) (lattice_Join a_0 a_0) T_lattice_Label_zero).bind fun (z14 : T_lattice_Label) =>
      (gd (true && ((cond (!z10) true (!z13)) == false)) (law32_same z14 a_0) false).bind fun (z15 : Bool) =>
      (gd (true && ((cond (cond (!z10) true (!z13)) true (!z15)) == false)) (lattice_Meet a_0 a_0) T_lattice_Label_zero).bind fun (z16 : T_lattice_Label) =>
      (gd (true && ((cond (cond (!z10) true (!z13)) true (!z15)) == false)) (law32_same z16 a_0) false).bind fun (z17 : Bool) =>
      cond (cond (cond (cond (!z10) true (!z13)) true (!z15)) true (!z17))
        (some false)
        ((lattice_Meet a_0 b_1).bind fun (z18 : T_lattice_Label) =>
        (lattice_Join a_0 z18).bind fun (z19 : T_lattice_Label) =>
        (law32_same z19 a_0).bind fun (z20 : Bool) =>
        (gd (true && ((!z20) == false)) (lattice_Join a_0 b_1) T_lattice_Label_zero).bind fun (z21 : T_lattice_Label) =>
        (gd (true && ((!z20) == false)) (lattice_Meet a_0 z21) T_lattice_Label_zero).bind fun (z22 : T_lattice_Label) =>
        (gd (true && ((!z20) == false)) (law32_same z22 a_0) false).bind fun (z23 : Bool) =>
        cond (cond (!z20) true (!z23))
          (some false)
          ((lattice_Join a_0 b_1).bind fun (z24 : T_lattice_Label) =>
          (lattice_Join z24 c_2).bind fun (z25 : T_lattice_Label) =>
          (lattice_Join b_1 c_2).bind fun (z26 : T_lattice_Label) =>
          (lattice_Join a_0 z26).bind fun (z27 : T_lattice_Label) =>
          (law32_same z25 z27).bind fun (z28 : Bool) =>
          (gd (true && (z28 == true)) (lattice_Meet a_0 b_1) T_lattice_Label_zero).bind fun (z29 : T_lattice_Label) =>
          (gd (true && (z28 == true)) (lattice_Meet z29 c_2) T_lattice_Label_zero).bind fun (z30 : T_lattice_Label) =>
          (gd (true && (z28 == true)) (lattice_Meet b_1 c_2) T_lattice_Label_zero).bind fun (z31 : T_lattice_Label) =>
          (gd (true && (z28 == true)) (lattice_Meet a_0 z31) T_lattice_Label_zero).bind fun (z32 : T_lattice_Label) =>
          (gd (true && (z28 == true)) (law32_same z30 z32) false).bind fun (z33 : Bool) =>
          some (cond z28 z33 false)))))

noncomputable def law32_LatticeLeast (a_0 : T_lattice_Label) (b_1 : T_lattice_Label) (c_2 : T_lattice_Label) : Option Bool :=
  (law32_alive ).bind fun (z4 : Bool) =>
  cond (!z4)
    (some false)
    ((lattice_Join a_0 b_1).bind fun (z6 : T_lattice_Label) =>
    (lattice_Meet a_0 b_1).bind fun (z7 : T_lattice_Label) =>
    (lattice_Under a_0 c_2).bind fun (z10 : Bool) =>
    (gd (true && (z10 == true)) (lattice_Under b_1 c_2) false).bind fun (z11 : Bool) =>
    (lattice_Under c_2 a_0).bind fun (z12 : Bool) =>
    (gd (true && (z12 == true)) (lattice_Under c_2 b_1) false).bind fun (z13 : Bool) =>
    (lattice_Under a_0 z6).bind fun (z14 : Bool) =>
    (gd (true && (z14 == true)) (lattice_Under b_1 z6) false).bind fun (z15 : Bool) =>
    (gd (true && ((cond z14 z15 false) == true)) (lattice_Under z6 c_2) false).bind fun (z16 : Bool) =>
    (gd (true && ((cond (cond z14 z15 false) ((cond z10 z11 false) == z16) false) == true)) (lattice_Under z7 a_0) false).bind fun (z17 : Bool) =>
    (gd (true && ((cond (cond (cond z14 z15 false) ((cond z10 z11 false) == z16) false) z17 false) == true)) (lattice_Under z7 b_1) false).bind fun (z18 : Bool) =>
    (gd (true && ((cond (cond (cond (cond z14 z15 false) ((cond z10 z11 false) == z16) false) z17 false) z18 false) == true)) (lattice_Under c_2 z7) false).bind fun (z19 : Bool) =>
    lt (cond (cond (cond (cond (cond z14 z15 false) ((cond z10 z11 false) == z16) false) z17 false) z18 false) ((cond z12 z13 false) == z19) false) fun (z20 : Bool) =>
    some z20)

noncomputable def law32_LatticeFlows (one_0 : T_lattice_Label) (other_1 : T_lattice_Label) (a_2 : T_lattice_Label) (through_3 : T_lattice_Label) (to_4 : T_lattice_Label) : Option Bool :=
  (law32_alive ).bind fun (z6 : Bool) =>
  cond (!z6)
    (some false)
    ((lattice_Read one_0 a_2).bind fun (z7 : Bool) =>
    (gd (true && (z7 == true)) (lattice_Write one_0 through_3) false).bind fun (z8 : Bool) =>
    (lattice_Read other_1 through_3).bind fun (z9 : Bool) =>
    (gd (true && (z9 == true)) (lattice_Write other_1 to_4) false).bind fun (z10 : Bool) =>
    (gd (true && ((!(cond z7 z8 false)) == false)) (lattice_Under a_2 through_3) false).bind fun (z11 : Bool) =>
    (gd ((true && ((cond (!(cond z7 z8 false)) true z11) == true)) && ((cond (!(cond z7 z8 false)) true (!(cond z9 z10 false))) == false)) (lattice_Under a_2 to_4) false).bind fun (z12 : Bool) =>
    lt (cond (cond (!(cond z7 z8 false)) true z11) (cond (cond (!(cond z7 z8 false)) true (!(cond z9 z10 false))) true z12) false) fun (z13 : Bool) =>
    some z13)

end Go.Proofs.Ytiaackeooiemjaa.M
