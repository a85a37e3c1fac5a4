/- The functions, as plain Lean: written by gen2.py. -/
import Derived.Test.YtdmanodhniggdaaEng
namespace Go.Proofs.Ytdmanodhniggdaa.M
open Go.Eng Go
set_option linter.unusedVariables false

structure T_delegate_Grant where
  From : Bytes
  To : Bytes
  Depth : Int
  At : Int
  Until : Int
def T_delegate_Grant_tup (x : T_delegate_Grant) : Bytes × Bytes × Int × Int × Int × Unit := (x.From, x.To, x.Depth, x.At, x.Until, ())
def T_delegate_Grant_rep0 := (Rep.cons (Rep.str) (Rep.cons (Rep.str) (Rep.cons (Rep.int .i64) (Rep.cons (Rep.int .i64) (Rep.cons (Rep.int .i64) Rep.nil0)))))
def T_delegate_Grant_rep : Rep T_delegate_Grant := T_delegate_Grant_rep0.iso T_delegate_Grant_tup
def T_delegate_Grant_zero : T_delegate_Grant := ⟨[], [], 0, 0, 0⟩
instance : Inhabited T_delegate_Grant := ⟨T_delegate_Grant_zero⟩

noncomputable def delegate_lets (known_0 : (Option (List (Bytes × Int)))) (g_1 : T_delegate_Grant) (a_2 : Int) : Option Int :=
  cond (cond (cond (cond (decide (g_1.Depth < 0)) true (decide (a_2 < g_1.At))) true (decide (g_1.Until < a_2))) true (decide (((mlook (fun x y => x == y) known_0 g_1.From).getD (0 : Int)) < 1)))
    (some (-1))
    (lt (min g_1.Depth (IntKind.i64.wrap (((mlook (fun x y => x == y) known_0 g_1.From).getD (0 : Int)) - 1))) fun (z2 : Int) =>
    some z2)

noncomputable def delegate_far_L2b (l_1 : (List T_delegate_Grant)) (a_2 : Int) (z3 : (Bool × Int × (Option (List (Bytes × Int))))) : Option ((Bool × Int × (Option (List (Bytes × Int)))) ⊕ (Bool × (Option (List (Bytes × Int))))) :=
  cond (decide (z3.2.1 < (l_1.length : Int)))
    ((idx l_1 z3.2.1).bind fun (z4 : T_delegate_Grant) =>
    (delegate_lets z3.2.2 z4 a_2).bind fun (z6 : Int) =>
    lt (((mlook (fun x y => x == y) z3.2.2 z4.To).getD (0 : Int))) fun (was8 : Int) =>
    lt ((mlook (fun x y => x == y) z3.2.2 z4.To).isSome) fun (ok9 : Bool) =>
    cond (cond (decide (0 ≤ z6)) (cond (!ok9) true (decide (was8 < z6))) false)
      ((mput? (fun x y => x == y) z3.2.2 z4.To z6).bind fun (z10 : (Option (List (Bytes × Int)))) =>
      some (.inl (true, IntKind.i64.wrap (z3.2.1 + 1), z10)))
      (some (.inl (z3.1, IntKind.i64.wrap (z3.2.1 + 1), z3.2.2))))
    (brk (some (z3.1, z3.2.2)))
noncomputable def delegate_far_L2 (l_1 : (List T_delegate_Grant)) (a_2 : Int) (z3 : (Bool × Int × (Option (List (Bytes × Int))))) : Option (Bool × (Option (List (Bytes × Int)))) := loopO (delegate_far_L2b l_1 a_2) z3

noncomputable def delegate_far_L1b (l_1 : (List T_delegate_Grant)) (a_2 : Int) (z1 : (Option (List (Bytes × Int)))) : Option ((Option (List (Bytes × Int))) ⊕ (Option (List (Bytes × Int)))) :=
  (delegate_far_L2 l_1 a_2 (false, 0, z1)).bind fun (z2 : (Bool × (Option (List (Bytes × Int))))) =>
  cond z2.1
    (some (.inl z2.2))
    (brk (some z2.2))

noncomputable def delegate_far_L3b (l_1 : (List T_delegate_Grant)) (a_2 : Int) (z14 : (Bool × Int × (Option (List (Bytes × Int))))) : Option ((Bool × Int × (Option (List (Bytes × Int)))) ⊕ (Bool × (Option (List (Bytes × Int))))) :=
  cond (decide (z14.2.1 < (l_1.length : Int)))
    ((idx l_1 z14.2.1).bind fun (z15 : T_delegate_Grant) =>
    (delegate_lets z14.2.2 z15 a_2).bind fun (z17 : Int) =>
    lt (((mlook (fun x y => x == y) z14.2.2 z15.To).getD (0 : Int))) fun (was19 : Int) =>
    lt ((mlook (fun x y => x == y) z14.2.2 z15.To).isSome) fun (ok20 : Bool) =>
    cond (cond (decide (0 ≤ z17)) (cond (!ok20) true (decide (was19 < z17))) false)
      ((mput? (fun x y => x == y) z14.2.2 z15.To z17).bind fun (z21 : (Option (List (Bytes × Int)))) =>
      some (.inl (true, IntKind.i64.wrap (z14.2.1 + 1), z21)))
      (some (.inl (z14.1, IntKind.i64.wrap (z14.2.1 + 1), z14.2.2))))
    (brk (some (z14.1, z14.2.2)))
noncomputable def delegate_far_L3 (l_1 : (List T_delegate_Grant)) (a_2 : Int) (z14 : (Bool × Int × (Option (List (Bytes × Int))))) : Option (Bool × (Option (List (Bytes × Int)))) := loopO (delegate_far_L3b l_1 a_2) z14

noncomputable def delegate_far (root_0 : Bytes) (l_1 : (List T_delegate_Grant)) (a_2 : Int) : Option (Option (List (Bytes × Int))) :=
  jumps ((mput? (fun x y => x == y) (some []) root_0 12).bind fun (z12 : (Option (List (Bytes × Int)))) =>
  (delegate_far_L3 l_1 a_2 (false, 0, z12)).bind fun (z13 : (Bool × (Option (List (Bytes × Int))))) =>
  cond z13.1
    (some (.inl z13.2))
    (brk (some z13.2))) (delegate_far_L1b l_1 a_2)

noncomputable def delegate_Chain_1_v0 (g_0 : T_delegate_Grant) (a_1 : Bytes) (a_2 : (Option (List (Bytes × Int)))) (a_3 : Int) : Option Bool :=
  (gd (true && ((g_0.To == a_1) == true)) (delegate_lets a_2 g_0 a_3) 0).bind fun (z2 : Int) =>
  some (cond (g_0.To == a_1) (z2 == ((mlook (fun x y => x == y) a_2 a_1).getD (0 : Int))) false)

noncomputable def slices_IndexFunc_delegate_Grant_delegate_Grant_v0_L1b (s_0 : (List T_delegate_Grant)) (c_1_0 : Bytes) (c_1_1 : (Option (List (Bytes × Int)))) (c_1_2 : Int) (z2 : Int) : Option (Int ⊕ (Unit ⊕ Int)) :=
  cond (decide (z2 < (s_0.length : Int)))
    ((idx s_0 z2).bind fun (z3 : T_delegate_Grant) =>
    (delegate_Chain_1_v0 z3 c_1_0 c_1_1 c_1_2).bind fun (z4 : Bool) =>
    cond z4
      (brk (brk (some z2)))
      (some (.inl (IntKind.i64.wrap (z2 + 1)))))
    (brk (some (.inl ())))
noncomputable def slices_IndexFunc_delegate_Grant_delegate_Grant_v0_L1 (s_0 : (List T_delegate_Grant)) (c_1_0 : Bytes) (c_1_1 : (Option (List (Bytes × Int)))) (c_1_2 : Int) (z2 : Int) : Option (Unit ⊕ Int) := loopO (slices_IndexFunc_delegate_Grant_delegate_Grant_v0_L1b s_0 c_1_0 c_1_1 c_1_2) z2

noncomputable def slices_IndexFunc_delegate_Grant_delegate_Grant_v0 (s_0 : (List T_delegate_Grant)) (c_1_0 : Bytes) (c_1_1 : (Option (List (Bytes × Int)))) (c_1_2 : Int) : Option Int :=
  both (slices_IndexFunc_delegate_Grant_delegate_Grant_v0_L1 s_0 c_1_0 c_1_1 c_1_2 0) fun (z1 : Unit) =>
  some (-1)

noncomputable def slices_Reverse_string_string_v0_L1b  (z3 : (Int × Int × (List Bytes))) : Option ((Int × Int × (List Bytes)) ⊕ (List Bytes)) :=
  cond (decide (z3.1 < z3.2.1))
    ((at? z3.2.2 z3.2.1).bind fun (z4 : Nat) =>
    (at? z3.2.2 z3.1).bind fun (z5 : Nat) =>
    (at? z3.2.2 z3.1).bind fun (z6 : Nat) =>
    (at? (z3.2.2.set z6 (z3.2.2.getD z4 [])) z3.2.1).bind fun (z7 : Nat) =>
    some (.inl (IntKind.i64.wrap (z3.1 + 1), IntKind.i64.wrap (z3.2.1 - 1), ((z3.2.2.set z6 (z3.2.2.getD z4 [])).set z7 (z3.2.2.getD z5 [])))))
    (brk (some z3.2.2))
noncomputable def slices_Reverse_string_string_v0_L1  (z3 : (Int × Int × (List Bytes))) : Option (List Bytes) := loopO (slices_Reverse_string_string_v0_L1b ) z3

noncomputable def slices_Reverse_string_string_v0 (s_0 : (List Bytes)) : Option (List Bytes) :=
  lt (IntKind.i64.wrap ((s_0.length : Int) - 1)) fun (j1 : Int) =>
  (slices_Reverse_string_string_v0_L1  (0, j1, s_0)).bind fun (z2 : (List Bytes)) =>
  some z2

noncomputable def delegate_Chain_L1b (z3 : (Option (List (Bytes × Int)))) (root_0 : Bytes) (l_1 : (List T_delegate_Grant)) (a_3 : Int) (z13 : ((Option (List (Bytes × Int))) × Bytes × (List Bytes))) : Option (((Option (List (Bytes × Int))) × Bytes × (List Bytes)) ⊕ (List Bytes)) :=
  cond (z13.2.1 != root_0)
    ((slices_IndexFunc_delegate_Grant_delegate_Grant_v0 l_1 z13.2.1 z3 a_3).bind fun (z14 : Int) =>
    (idx l_1 z14).bind fun (z16 : T_delegate_Grant) =>
    (app 16 z13.2.2 ([z16.From] : List Bytes)).bind fun (z17 : List Bytes) =>
    some (.inl (z3, z16.From, z17)))
    (brk (some z13.2.2))
noncomputable def delegate_Chain_L1 (z3 : (Option (List (Bytes × Int)))) (root_0 : Bytes) (l_1 : (List T_delegate_Grant)) (a_3 : Int) (z13 : ((Option (List (Bytes × Int))) × Bytes × (List Bytes))) : Option (List Bytes) := loopO (delegate_Chain_L1b z3 root_0 l_1 a_3) z13

noncomputable def delegate_Chain (root_0 : Bytes) (l_1 : (List T_delegate_Grant)) (who_2 : Bytes) (a_3 : Int) : Option ((List Bytes) × Bool) :=
  (delegate_far root_0 l_1 a_3).bind fun (z3 : (Option (List (Bytes × Int)))) =>
  lt (((mlook (fun x y => x == y) z3 who_2).getD (0 : Int))) fun (z7 : Int) =>
  lt ((mlook (fun x y => x == y) z3 who_2).isSome) fun (ok8 : Bool) =>
  cond (!ok8)
    (some ([], false))
    ((delegate_Chain_L1 z3 root_0 l_1 a_3 ((none : (Option (List (Bytes × Int)))), who_2, ([who_2] : List Bytes))).bind fun (z10 : (List Bytes)) =>
    (slices_Reverse_string_string_v0 z10).bind fun (z11 : (List Bytes)) =>
    some (z11, true))

noncomputable def delegate_Depth (root_0 : Bytes) (l_1 : (List T_delegate_Grant)) (who_2 : Bytes) (a_3 : Int) : Option Int :=
  (delegate_far root_0 l_1 a_3).bind fun (z1 : (Option (List (Bytes × Int)))) =>
  lt (((mlook (fun x y => x == y) z1 who_2).getD (0 : Int))) fun (n4 : Int) =>
  lt ((mlook (fun x y => x == y) z1 who_2).isSome) fun (ok5 : Bool) =>
  cond (!ok5)
    (some (-1))
    (some n4)

noncomputable def delegate_Holds (root_0 : Bytes) (l_1 : (List T_delegate_Grant)) (who_2 : Bytes) (a_3 : Int) : Option Bool :=
  (delegate_Depth root_0 l_1 who_2 a_3).bind fun (z1 : Int) =>
  some (decide (0 ≤ z1))

noncomputable def plain_Texts_L1b (a_0 : (List Bytes)) (b_1 : (List Bytes)) (z2 : Int) : Option (Int ⊕ (Unit ⊕ Bool)) :=
  cond (decide (z2 < (a_0.length : Int)))
    ((idx a_0 z2).bind fun (z3 : Bytes) =>
    (idx b_1 z2).bind fun (z4 : Bytes) =>
    cond (z3 != z4)
      (brk (brk (some false)))
      (some (.inl (IntKind.i64.wrap (z2 + 1)))))
    (brk (some (.inl ())))
noncomputable def plain_Texts_L1 (a_0 : (List Bytes)) (b_1 : (List Bytes)) (z2 : Int) : Option (Unit ⊕ Bool) := loopO (plain_Texts_L1b a_0 b_1) z2

noncomputable def plain_Texts (a_0 : (List Bytes)) (b_1 : (List Bytes)) : Option Bool :=
  cond ((a_0.length : Int) != (b_1.length : Int))
    (some false)
    (both (plain_Texts_L1 a_0 b_1 0) fun (z1 : Unit) =>
    some true)

noncomputable def slices_SortS (xs : (List Bytes)) : Option (List Bytes) := sortS xs

noncomputable def delegate_All_L1b  (z7 : (List Bytes)) (z10 : Option (Bytes × Int)) : Option ((List Bytes) ⊕ (List Bytes)) :=
  optc z10
    (brk ((slices_SortS z7).bind fun (z13 : (List Bytes)) =>
    some z13))
    (fun (z12 : (Bytes × Int)) => (app 16 z7 ([z12.1] : List Bytes)).bind fun (z15 : List Bytes) =>
    some (.inl z15))
noncomputable def delegate_All_L1  (z7 : (List Bytes)) (rem : List (Bytes × Int)) : Option (List Bytes) := mloop (delegate_All_L1b ) z7 rem

noncomputable def delegate_All (root_0 : Bytes) (l_1 : (List T_delegate_Grant)) (a_2 : Int) : Option (List Bytes) :=
  (delegate_far root_0 l_1 a_2).bind fun (z1 : (Option (List (Bytes × Int)))) =>
  delegate_All_L1  ([] : (List Bytes)) (z1.getD [])

noncomputable def law35_alive  : Option Bool :=
  lt (([(⟨([114] : Bytes), ([97] : Bytes), 1, 0, 9⟩ : T_delegate_Grant), (⟨([97] : Bytes), ([98] : Bytes), 5, 0, 9⟩ : T_delegate_Grant), (⟨([98] : Bytes), ([99] : Bytes), 0, 0, 9⟩ : T_delegate_Grant)] : List T_delegate_Grant)) fun (l1 : (List T_delegate_Grant)) =>
  (delegate_Chain ([114] : Bytes) l1 ([98] : Bytes) 5).bind fun (z2 : ((List Bytes) × Bool)) =>
  (delegate_Depth ([114] : Bytes) l1 ([98] : Bytes) 5).bind fun (z5 : Int) =>
  (gd (true && ((z5 == 0) == true)) (delegate_Holds ([114] : Bytes) l1 ([99] : Bytes) 5) false).bind fun (z6 : Bool) =>
  (gd (true && ((cond (z5 == 0) (!z6) false) == true)) (delegate_Holds ([114] : Bytes) l1 ([97] : Bytes) 10) false).bind fun (z7 : Bool) =>
  (gd (true && ((cond (cond (cond (z5 == 0) (!z6) false) (!z7) false) z2.2 false) == true)) (plain_Texts z2.1 ([([114] : Bytes), ([97] : Bytes), ([98] : Bytes)] : List Bytes)) false).bind fun (z8 : Bool) =>
  (gd (true && ((cond (cond (cond (cond (z5 == 0) (!z6) false) (!z7) false) z2.2 false) z8 false) == true)) (delegate_All ([114] : Bytes) l1 5) []).bind fun (z9 : (List Bytes)) =>
  lt (cond (cond (cond (cond (cond (z5 == 0) (!z6) false) (!z7) false) z2.2 false) z8 false) ((z9.length : Int) == 3) false) fun (z11 : Bool) =>
  some z11

noncomputable def law35_few (l_0 : (List T_delegate_Grant)) : Option (List T_delegate_Grant) :=
  cond (decide (24 < (l_0.length : Int)))
    ((sub l_0 0 24).bind fun (z1 : (List T_delegate_Grant)) =>
    some z1)
    (some l_0)

noncomputable def plain_In_L1b (l_0 : (List Bytes)) (s_1 : Bytes) (z2 : Int) : Option (Int ⊕ (Unit ⊕ Bool)) :=
  cond (decide (z2 < (l_0.length : Int)))
    ((idx l_0 z2).bind fun (z3 : Bytes) =>
    cond (z3 == s_1)
      (brk (brk (some true)))
      (some (.inl (IntKind.i64.wrap (z2 + 1)))))
    (brk (some (.inl ())))
noncomputable def plain_In_L1 (l_0 : (List Bytes)) (s_1 : Bytes) (z2 : Int) : Option (Unit ⊕ Bool) := loopO (plain_In_L1b l_0 s_1) z2

noncomputable def plain_In (l_0 : (List Bytes)) (s_1 : Bytes) : Option Bool :=
  both (plain_In_L1 l_0 s_1 0) fun (z1 : Unit) =>
  some false

noncomputable def law35_far_L1b (names_0 : (List Bytes)) (known_1 : (List Int)) (who_2 : Bytes) (z2 : Int) : Option (Int ⊕ (Unit ⊕ Int)) :=
  cond (decide (z2 < (names_0.length : Int)))
    ((idx names_0 z2).bind fun (z3 : Bytes) =>
    cond (z3 == who_2)
      ((idx known_1 z2).bind fun (z4 : Int) =>
      brk (brk (some z4)))
      (some (.inl (IntKind.i64.wrap (z2 + 1)))))
    (brk (some (.inl ())))
noncomputable def law35_far_L1 (names_0 : (List Bytes)) (known_1 : (List Int)) (who_2 : Bytes) (z2 : Int) : Option (Unit ⊕ Int) := loopO (law35_far_L1b names_0 known_1 who_2) z2

noncomputable def law35_far (names_0 : (List Bytes)) (known_1 : (List Int)) (who_2 : Bytes) : Option Int :=
  both (law35_far_L1 names_0 known_1 who_2 0) fun (z1 : Unit) =>
  some (-1)

noncomputable def law35_by (names_0 : (List Bytes)) (known_1 : (List Int)) (g_2 : T_delegate_Grant) (a_3 : Int) : Option Int :=
  (law35_far names_0 known_1 g_2.From).bind fun (z2 : Int) =>
  cond (cond (cond (cond (decide (g_2.Depth < 0)) true (decide (a_3 < g_2.At))) true (decide (g_2.Until < a_3))) true (decide (z2 < 1)))
    (some (-1))
    (lt (min g_2.Depth (IntKind.i64.wrap (z2 - 1))) fun (z3 : Int) =>
    some z3)

noncomputable def law35_find_L3b (z3 : ((List Bytes) × (List Int))) (z9 : (Int × (List Int))) (z11 : Int) (l_1 : (List T_delegate_Grant)) (z13 : (Int × (List Int))) : Option ((Int × (List Int)) ⊕ (List Int)) :=
  cond (decide (z13.1 < (z3.1.length : Int)))
    ((at? z3.1 z13.1).bind fun (z14 : Nat) =>
    (idx l_1 z9.1).bind fun (z15 : T_delegate_Grant) =>
    cond ((z3.1.getD z14 []) == z15.To)
      ((at? z13.2 z13.1).bind fun (z16 : Nat) =>
      (at? z13.2 z13.1).bind fun (z17 : Nat) =>
      some (.inl (IntKind.i64.wrap (z13.1 + 1), (z13.2.set z17 (max (z13.2.getD z16 0) z11)))))
      (some (.inl (IntKind.i64.wrap (z13.1 + 1), z13.2))))
    (brk (some z13.2))
noncomputable def law35_find_L3 (z3 : ((List Bytes) × (List Int))) (z9 : (Int × (List Int))) (z11 : Int) (l_1 : (List T_delegate_Grant)) (z13 : (Int × (List Int))) : Option (List Int) := loopO (law35_find_L3b z3 z9 z11 l_1) z13

noncomputable def law35_find_L2b (z3 : ((List Bytes) × (List Int))) (z5 : ((List Int) × Int)) (l_1 : (List T_delegate_Grant)) (a_2 : Int) (z9 : (Int × (List Int))) : Option ((Int × (List Int)) ⊕ (List Int)) :=
  cond (decide (z9.1 < (l_1.length : Int)))
    ((idx l_1 z9.1).bind fun (z10 : T_delegate_Grant) =>
    (law35_by z3.1 z5.1 z10 a_2).bind fun (z11 : Int) =>
    (law35_find_L3 z3 z9 z11 l_1 (0, z9.2)).bind fun (z12 : (List Int)) =>
    some (.inl (IntKind.i64.wrap (z9.1 + 1), z12)))
    (brk (some z9.2))
noncomputable def law35_find_L2 (z3 : ((List Bytes) × (List Int))) (z5 : ((List Int) × Int)) (l_1 : (List T_delegate_Grant)) (a_2 : Int) (z9 : (Int × (List Int))) : Option (List Int) := loopO (law35_find_L2b z3 z5 l_1 a_2) z9

noncomputable def law35_find_L1b (z3 : ((List Bytes) × (List Int))) (l_1 : (List T_delegate_Grant)) (a_2 : Int) (z5 : ((List Int) × Int)) : Option (((List Int) × Int) ⊕ (List Int)) :=
  cond (decide (z5.2 < 12))
    ((app 8 ([] : List Int) z5.1).bind fun (z6 : List Int) =>
    (law35_find_L2 z3 z5 l_1 a_2 (0, z6)).bind fun (z8 : (List Int)) =>
    some (.inl (z8, IntKind.i64.wrap (z5.2 + 1))))
    (brk (some z5.1))
noncomputable def law35_find_L1 (z3 : ((List Bytes) × (List Int))) (l_1 : (List T_delegate_Grant)) (a_2 : Int) (z5 : ((List Int) × Int)) : Option (List Int) := loopO (law35_find_L1b z3 l_1 a_2) z5

noncomputable def law35_find_L4b (l_1 : (List T_delegate_Grant)) (z18 : (Int × (List Bytes) × (List Int))) : Option ((Int × (List Bytes) × (List Int)) ⊕ ((List Bytes) × (List Int))) :=
  cond (decide (z18.1 < (l_1.length : Int)))
    ((idx l_1 z18.1).bind fun (z19 : T_delegate_Grant) =>
    (plain_In z18.2.1 z19.To).bind fun (z20 : Bool) =>
    cond (!z20)
      ((idx l_1 z18.1).bind fun (z21 : T_delegate_Grant) =>
      (app 16 z18.2.1 ([z21.To] : List Bytes)).bind fun (z22 : List Bytes) =>
      (app 8 z18.2.2 ([(-1)] : List Int)).bind fun (z24 : List Int) =>
      some (.inl (IntKind.i64.wrap (z18.1 + 1), z22, z24)))
      (some (.inl (IntKind.i64.wrap (z18.1 + 1), z18.2.1, z18.2.2))))
    (brk (some (z18.2.1, z18.2.2)))
noncomputable def law35_find_L4 (l_1 : (List T_delegate_Grant)) (z18 : (Int × (List Bytes) × (List Int))) : Option ((List Bytes) × (List Int)) := loopO (law35_find_L4b l_1) z18

noncomputable def law35_find (root_0 : Bytes) (l_1 : (List T_delegate_Grant)) (a_2 : Int) : Option ((List Bytes) × (List Int)) :=
  (law35_find_L4 l_1 (0, ([root_0] : List Bytes), ([12] : List Int))).bind fun (z3 : ((List Bytes) × (List Int))) =>
  (law35_find_L1 z3 l_1 a_2 (z3.2, 0)).bind fun (z4 : (List Int)) =>
  some (z3.1, z4)

noncomputable def plain_Rising_L2b (z2 : ((List Bytes) × Int)) (l_0 : (List Bytes)) (z15 : Int) : Option (Int ⊕ Int) :=
  (gd (true && ((decide (z15 < (z2.1.length : Int))) == true)) (idx z2.1 z15) []).bind fun (z16 : Bytes) =>
  (gd (true && ((decide (z15 < (z2.1.length : Int))) == true)) (idx l_0 z2.2) []).bind fun (z17 : Bytes) =>
  cond (cond (decide (z15 < (z2.1.length : Int))) (less z16 z17) false)
    (some (.inl (IntKind.i64.wrap (z15 + 1))))
    (brk (some z15))
noncomputable def plain_Rising_L2 (z2 : ((List Bytes) × Int)) (l_0 : (List Bytes)) (z15 : Int) : Option Int := loopO (plain_Rising_L2b z2 l_0) z15

noncomputable def plain_Rising_L1b (l_0 : (List Bytes)) (z2 : ((List Bytes) × Int)) : Option (((List Bytes) × Int) ⊕ (List Bytes)) :=
  cond (decide (z2.2 < (l_0.length : Int)))
    ((idx l_0 z2.2).bind fun (z3 : Bytes) =>
    (plain_In z2.1 z3).bind fun (z4 : Bool) =>
    cond z4
      (some (.inl (z2.1, IntKind.i64.wrap (z2.2 + 1))))
      ((plain_Rising_L2 z2 l_0 0).bind fun (z5 : Int) =>
      (sub z2.1 0 z5).bind fun (z6 : (List Bytes)) =>
      (app 16 ([] : List Bytes) z6).bind fun (z7 : List Bytes) =>
      (idx l_0 z2.2).bind fun (z9 : Bytes) =>
      (app 16 z7 ([z9] : List Bytes)).bind fun (z10 : List Bytes) =>
      (sub z2.1 z5 (z2.1.length)).bind fun (z12 : (List Bytes)) =>
      (app 16 z10 z12).bind fun (z13 : List Bytes) =>
      some (.inl (z13, IntKind.i64.wrap (z2.2 + 1)))))
    (brk (some z2.1))
noncomputable def plain_Rising_L1 (l_0 : (List Bytes)) (z2 : ((List Bytes) × Int)) : Option (List Bytes) := loopO (plain_Rising_L1b l_0) z2

noncomputable def plain_Rising (l_0 : (List Bytes)) : Option (List Bytes) :=
  (plain_Rising_L1 l_0 (([] : (List Bytes)), 0)).bind fun (z1 : (List Bytes)) =>
  some z1

noncomputable def law35_DelegateTells_L1b (z3 : ((List Bytes) × (List Int))) (z15 : (Int × (List Bytes))) : Option ((Int × (List Bytes)) ⊕ (List Bytes)) :=
  cond (decide (z15.1 < (z3.1.length : Int)))
    ((idx z3.2 z15.1).bind fun (z16 : Int) =>
    cond (decide (0 ≤ z16))
      ((at? z3.1 z15.1).bind fun (z17 : Nat) =>
      (app 16 z15.2 ([(z3.1.getD z17 [])] : List Bytes)).bind fun (z18 : List Bytes) =>
      some (.inl (IntKind.i64.wrap (z15.1 + 1), z18)))
      (some (.inl (IntKind.i64.wrap (z15.1 + 1), z15.2))))
    (brk (some z15.2))
noncomputable def law35_DelegateTells_L1 (z3 : ((List Bytes) × (List Int))) (z15 : (Int × (List Bytes))) : Option (List Bytes) := loopO (law35_DelegateTells_L1b z3) z15

noncomputable def law35_DelegateTells (root_0 : Bytes) (l_1 : (List T_delegate_Grant)) (who_2 : Bytes) (a_3 : Int) : Option Bool :=
  (law35_alive ).bind fun (z1 : Bool) =>
  cond (!z1)
    (some false)
    ((law35_few l_1).bind fun (z2 : (List T_delegate_Grant)) =>
    (law35_find root_0 z2 a_3).bind fun (z3 : ((List Bytes) × (List Int))) =>
    (law35_far z3.1 z3.2 who_2).bind fun (z6 : Int) =>
    (law35_DelegateTells_L1 z3 (0, ([] : (List Bytes)))).bind fun (z7 : (List Bytes)) =>
    (delegate_Depth root_0 z2 who_2 a_3).bind fun (z8 : Int) =>
    (gd (true && ((z8 == z6) == true)) (delegate_Holds root_0 z2 who_2 a_3) false).bind fun (z9 : Bool) =>
    (gd (true && ((cond (z8 == z6) (z9 == (decide (0 ≤ z6))) false) == true)) (delegate_All root_0 z2 a_3) []).bind fun (z10 : (List Bytes)) =>
    (gd (true && ((cond (z8 == z6) (z9 == (decide (0 ≤ z6))) false) == true)) (plain_Rising z7) []).bind fun (z12 : (List Bytes)) =>
    (gd (true && ((cond (z8 == z6) (z9 == (decide (0 ≤ z6))) false) == true)) (plain_Texts z10 z12) false).bind fun (z13 : Bool) =>
    lt (cond (cond (z8 == z6) (z9 == (decide (0 ≤ z6))) false) z13 false) fun (z14 : Bool) =>
    some z14)

noncomputable def law35_DelegateChains_L2b (z2 : (List T_delegate_Grant)) (z3 : ((List Bytes) × (List Int))) (z6 : ((List Bytes) × Bool)) (z14 : Int) (a_3 : Int) (z22 : (Bytes × Bool × Int)) : Option ((Bytes × Bool × Int) ⊕ (Bytes × Bool)) :=
  cond (cond (decide (z22.2.2 < (z2.length : Int))) (!z22.2.1) false)
    ((idx z2 z22.2.2).bind fun (z23 : T_delegate_Grant) =>
    (at? z6.1 z14).bind fun (z24 : Nat) =>
    (gd (true && ((z23.To == (z6.1.getD z24 [])) == true)) (idx z2 z22.2.2) T_delegate_Grant_zero).bind fun (z25 : T_delegate_Grant) =>
    (gd (true && ((z23.To == (z6.1.getD z24 [])) == true)) (law35_by z3.1 z3.2 z25 a_3) 0).bind fun (z26 : Int) =>
    (gd (true && ((z23.To == (z6.1.getD z24 [])) == true)) (at? z6.1 z14) 0).bind fun (z27 : Nat) =>
    (gd (true && ((z23.To == (z6.1.getD z24 [])) == true)) (law35_far z3.1 z3.2 (z6.1.getD z27 [])) 0).bind fun (z28 : Int) =>
    cond (cond (z23.To == (z6.1.getD z24 [])) (z26 == z28) false)
      ((idx z2 z22.2.2).bind fun (z29 : T_delegate_Grant) =>
      some (.inl (z29.From, true, IntKind.i64.wrap (z22.2.2 + 1))))
      (some (.inl (z22.1, z22.2.1, IntKind.i64.wrap (z22.2.2 + 1)))))
    (brk (some (z22.1, z22.2.1)))
noncomputable def law35_DelegateChains_L2 (z2 : (List T_delegate_Grant)) (z3 : ((List Bytes) × (List Int))) (z6 : ((List Bytes) × Bool)) (z14 : Int) (a_3 : Int) (z22 : (Bytes × Bool × Int)) : Option (Bytes × Bool) := loopO (law35_DelegateChains_L2b z2 z3 z6 z14 a_3) z22

noncomputable def law35_DelegateChains_L1b (z2 : (List T_delegate_Grant)) (z3 : ((List Bytes) × (List Int))) (z6 : ((List Bytes) × Bool)) (root_0 : Bytes) (a_3 : Int) (z14 : Int) : Option (Int ⊕ (Unit ⊕ Bool)) :=
  cond (decide (z14 < (z6.1.length : Int)))
    ((law35_DelegateChains_L2 z2 z3 z6 z14 a_3 (([] : Bytes), false, 0)).bind fun (z15 : (Bytes × Bool)) =>
    (at? z6.1 z14).bind fun (z16 : Nat) =>
    (gd (true && ((cond ((z6.1.getD z16 []) == root_0) true (!z15.2)) == false)) (at? z6.1 (IntKind.i64.wrap (z14 - 1))) 0).bind fun (z17 : Nat) =>
    (gd (true && ((cond (cond ((z6.1.getD z16 []) == root_0) true (!z15.2)) true (z15.1 != (z6.1.getD z17 []))) == false)) (at? z6.1 z14) 0).bind fun (z18 : Nat) =>
    (gd (true && ((cond (cond ((z6.1.getD z16 []) == root_0) true (!z15.2)) true (z15.1 != (z6.1.getD z17 []))) == false)) (law35_far z3.1 z3.2 (z6.1.getD z18 [])) 0).bind fun (z19 : Int) =>
    (gd (true && ((cond (cond ((z6.1.getD z16 []) == root_0) true (!z15.2)) true (z15.1 != (z6.1.getD z17 []))) == false)) (at? z6.1 (IntKind.i64.wrap (z14 - 1))) 0).bind fun (z20 : Nat) =>
    (gd (true && ((cond (cond ((z6.1.getD z16 []) == root_0) true (!z15.2)) true (z15.1 != (z6.1.getD z17 []))) == false)) (law35_far z3.1 z3.2 (z6.1.getD z20 [])) 0).bind fun (z21 : Int) =>
    cond (cond (cond (cond ((z6.1.getD z16 []) == root_0) true (!z15.2)) true (z15.1 != (z6.1.getD z17 []))) true (decide (z21 ≤ z19)))
      (brk (brk (some false)))
      (some (.inl (IntKind.i64.wrap (z14 + 1)))))
    (brk (some (.inl ())))
noncomputable def law35_DelegateChains_L1 (z2 : (List T_delegate_Grant)) (z3 : ((List Bytes) × (List Int))) (z6 : ((List Bytes) × Bool)) (root_0 : Bytes) (a_3 : Int) (z14 : Int) : Option (Unit ⊕ Bool) := loopO (law35_DelegateChains_L1b z2 z3 z6 root_0 a_3) z14

noncomputable def law35_DelegateChains (root_0 : Bytes) (l_1 : (List T_delegate_Grant)) (who_2 : Bytes) (a_3 : Int) : Option Bool :=
  (law35_alive ).bind fun (z1 : Bool) =>
  cond (!z1)
    (some false)
    ((law35_few l_1).bind fun (z2 : (List T_delegate_Grant)) =>
    (law35_find root_0 z2 a_3).bind fun (z3 : ((List Bytes) × (List Int))) =>
    (delegate_Chain root_0 z2 who_2 a_3).bind fun (z6 : ((List Bytes) × Bool)) =>
    (law35_far z3.1 z3.2 who_2).bind fun (z9 : Int) =>
    cond (decide (z9 < 0))
      (lt (cond (!z6.2) ((z6.1.length : Int) == 0) false) fun (z10 : Bool) =>
      some z10)
      ((gd (true && ((cond (cond (!z6.2) true ((z6.1.length : Int) == 0)) true (decide (13 < (z6.1.length : Int)))) == false)) (at? z6.1 0) 0).bind fun (z11 : Nat) =>
      (gd (true && ((cond (cond (cond (!z6.2) true ((z6.1.length : Int) == 0)) true (decide (13 < (z6.1.length : Int)))) true ((z6.1.getD z11 []) != root_0)) == false)) (at? z6.1 (IntKind.i64.wrap ((z6.1.length : Int) - 1))) 0).bind fun (z12 : Nat) =>
      cond (cond (cond (cond (cond (!z6.2) true ((z6.1.length : Int) == 0)) true (decide (13 < (z6.1.length : Int)))) true ((z6.1.getD z11 []) != root_0)) true ((z6.1.getD z12 []) != who_2))
        (some false)
        (both (law35_DelegateChains_L1 z2 z3 z6 root_0 a_3 1) fun (z13 : Unit) =>
        some true)))

noncomputable def law35_DelegateMore_L1b (z2 : (List T_delegate_Grant)) (a_4 : Int) (z14 : (Int × (List T_delegate_Grant))) : Option ((Int × (List T_delegate_Grant)) ⊕ (List T_delegate_Grant)) :=
  cond (decide (z14.1 < (z2.length : Int)))
    ((idx z2 z14.1).bind fun (z15 : T_delegate_Grant) =>
    (gd (true && ((decide (0 ≤ z15.Depth)) == true)) (idx z2 z14.1) T_delegate_Grant_zero).bind fun (z16 : T_delegate_Grant) =>
    (gd (true && ((cond (decide (0 ≤ z15.Depth)) (decide (z16.At ≤ a_4)) false) == true)) (idx z2 z14.1) T_delegate_Grant_zero).bind fun (z17 : T_delegate_Grant) =>
    cond (cond (cond (decide (0 ≤ z15.Depth)) (decide (z16.At ≤ a_4)) false) (decide (a_4 ≤ z17.Until)) false)
      ((idx z2 z14.1).bind fun (z18 : T_delegate_Grant) =>
      (app 56 z14.2 ([z18] : List T_delegate_Grant)).bind fun (z19 : List T_delegate_Grant) =>
      some (.inl (IntKind.i64.wrap (z14.1 + 1), z19)))
      (some (.inl (IntKind.i64.wrap (z14.1 + 1), z14.2))))
    (brk (some z14.2))
noncomputable def law35_DelegateMore_L1 (z2 : (List T_delegate_Grant)) (a_4 : Int) (z14 : (Int × (List T_delegate_Grant))) : Option (List T_delegate_Grant) := loopO (law35_DelegateMore_L1b z2 a_4) z14

noncomputable def law35_DelegateMore (root_0 : Bytes) (l_1 : (List T_delegate_Grant)) (m_2 : (List T_delegate_Grant)) (who_3 : Bytes) (a_4 : Int) : Option Bool :=
  (law35_alive ).bind fun (z1 : Bool) =>
  cond (!z1)
    (some false)
    ((law35_few l_1).bind fun (z2 : (List T_delegate_Grant)) =>
    (law35_few m_2).bind fun (z3 : (List T_delegate_Grant)) =>
    (app 56 ([] : List T_delegate_Grant) z2).bind fun (z4 : List T_delegate_Grant) =>
    (app 56 z4 z3).bind fun (z6 : List T_delegate_Grant) =>
    (law35_DelegateMore_L1 z2 a_4 (0, ([] : (List T_delegate_Grant)))).bind fun (z8 : (List T_delegate_Grant)) =>
    (delegate_Depth root_0 z2 who_3 a_4).bind fun (z9 : Int) =>
    (delegate_Depth root_0 z6 who_3 a_4).bind fun (z10 : Int) =>
    (gd (true && ((decide (z9 ≤ z10)) == true)) (delegate_Depth root_0 z8 who_3 a_4) 0).bind fun (z11 : Int) =>
    (gd (true && ((cond (decide (z9 ≤ z10)) (z11 == z9) false) == true)) (delegate_Depth root_0 ([] : (List T_delegate_Grant)) root_0 a_4) 0).bind fun (z12 : Int) =>
    lt (cond (cond (decide (z9 ≤ z10)) (z11 == z9) false) (z12 == 12) false) fun (z13 : Bool) =>
    some z13)

noncomputable def law35_DelegateBound_L1b (z2 : (List T_delegate_Grant)) (root_0 : Bytes) (who_2 : Bytes) (a_3 : Int) (z5 : (Int × Int)) : Option ((Int × Int) ⊕ Int) :=
  cond (decide (z5.2 < (z2.length : Int)))
    ((idx z2 z5.2).bind fun (z6 : T_delegate_Grant) =>
    (delegate_Depth root_0 z2 z6.From a_3).bind fun (z8 : Int) =>
    cond (cond (cond (cond (cond (z6.To == who_2) (decide (0 ≤ z6.Depth)) false) (decide (z6.At ≤ a_3)) false) (decide (a_3 ≤ z6.Until)) false) (decide (0 < z8)) false)
      (lt (max z5.1 (min z6.Depth (IntKind.i64.wrap (z8 - 1)))) fun (most9 : Int) =>
      some (.inl (most9, IntKind.i64.wrap (z5.2 + 1))))
      (some (.inl (z5.1, IntKind.i64.wrap (z5.2 + 1)))))
    (brk (some z5.1))
noncomputable def law35_DelegateBound_L1 (z2 : (List T_delegate_Grant)) (root_0 : Bytes) (who_2 : Bytes) (a_3 : Int) (z5 : (Int × Int)) : Option Int := loopO (law35_DelegateBound_L1b z2 root_0 who_2 a_3) z5

noncomputable def law35_DelegateBound (root_0 : Bytes) (l_1 : (List T_delegate_Grant)) (who_2 : Bytes) (a_3 : Int) : Option Bool :=
  (law35_alive ).bind fun (z1 : Bool) =>
  cond (!z1)
    (some false)
    ((law35_few l_1).bind fun (z2 : (List T_delegate_Grant)) =>
    (delegate_Depth root_0 z2 who_2 a_3).bind fun (z3 : Int) =>
    cond (who_2 == root_0)
      (some (z3 == 12))
      ((law35_DelegateBound_L1 z2 root_0 who_2 a_3 ((-1), 0)).bind fun (z4 : Int) =>
      some (cond (z3 == z4) (decide (z3 < 12)) false)))

end Go.Proofs.Ytdmanodhniggdaa.M
