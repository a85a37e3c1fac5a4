/- The functions, as plain Lean: written by gen2.py. -/
import Derived.Test.YtdocdjknennfjaaEng
namespace Go.Proofs.Ytdocdjknennfjaa.M
open Go.Eng Go
set_option linter.unusedVariables false

structure T_roles_Pair where
  Low : Bytes
  High : Bytes
def T_roles_Pair_tup (x : T_roles_Pair) : Bytes × Bytes × Unit := (x.Low, x.High, ())
def T_roles_Pair_rep0 := (Rep.cons (Rep.str) (Rep.cons (Rep.str) Rep.nil0))
def T_roles_Pair_rep : Rep T_roles_Pair := T_roles_Pair_rep0.iso T_roles_Pair_tup
def T_roles_Pair_zero : T_roles_Pair := ⟨[], []⟩
instance : Inhabited T_roles_Pair := ⟨T_roles_Pair_zero⟩
def T_roles_Pair_eqb (x y : T_roles_Pair) : Bool := ((x.Low == y.Low) && ((x.High == y.High) && true))

structure T_roles_graph where
  number : (Option (List (Bytes × Int)))
  names : (List Bytes)
  up : (List (List Int))
  down : (List (List Int))
def T_roles_graph_tup (x : T_roles_graph) : (Option (List (Bytes × Int))) × (List Bytes) × (List (List Int)) × (List (List Int)) × Unit := (x.number, x.names, x.up, x.down, ())
def T_roles_graph_rep0 := (Rep.cons ((Rep.never (Option (List (Bytes × Int))))) (Rep.cons ((Rep.str).slice) (Rep.cons (((Rep.int .i64).slice).slice) (Rep.cons (((Rep.int .i64).slice).slice) Rep.nil0))))
def T_roles_graph_rep : Rep T_roles_graph := T_roles_graph_rep0.iso T_roles_graph_tup
def T_roles_graph_zero : T_roles_graph := ⟨(none), [], [], []⟩
instance : Inhabited T_roles_graph := ⟨T_roles_graph_zero⟩
def T_roles_graph_tupo (x : T_roles_graph) : Unit × Unit × Unit × Unit × Unit := ((), (), (), (), ())
def T_roles_graph_repo0 (v0 v1 v2 v3 : Value) := (Rep.cons ((Rep.isv v0)) (Rep.cons ((Rep.isv v1)) (Rep.cons ((Rep.isv v2)) (Rep.cons ((Rep.isv v3)) Rep.nil0))))
def T_roles_graph_repo (v0 v1 v2 v3 : Value) : Rep T_roles_graph := (T_roles_graph_repo0 v0 v1 v2 v3).iso T_roles_graph_tupo

noncomputable def lex_begins (c_0 : Int) : Option Bool :=
  lt (cond (cond (cond (decide (97 ≤ c_0)) (decide (c_0 ≤ 122)) false) true (cond (decide (65 ≤ c_0)) (decide (c_0 ≤ 90)) false)) true (c_0 == 95)) fun (z1 : Bool) =>
  some z1

noncomputable def lex_digit (c_0 : Int) : Option Bool :=
  lt (cond (decide (48 ≤ c_0)) (decide (c_0 ≤ 57)) false) fun (z1 : Bool) =>
  some z1

noncomputable def lex_run_L1b (s_0 : Bytes) (z2 : Int) : Option (Int ⊕ Int) :=
  (gd (true && ((decide (z2 < (s_0.length : Int))) == true)) (idxb s_0 z2) 0).bind fun (z3 : Int) =>
  (gd (true && ((decide (z2 < (s_0.length : Int))) == true)) (lex_begins z3) false).bind fun (z4 : Bool) =>
  (gd ((true && ((decide (z2 < (s_0.length : Int))) == true)) && (z4 == false)) (idxb s_0 z2) 0).bind fun (z5 : Int) =>
  (gd ((true && ((decide (z2 < (s_0.length : Int))) == true)) && (z4 == false)) (lex_digit z5) false).bind fun (z6 : Bool) =>
  cond (cond (decide (z2 < (s_0.length : Int))) (cond z4 true z6) false)
    (some (.inl (IntKind.i64.wrap (z2 + 1))))
    (brk (some z2))
noncomputable def lex_run_L1 (s_0 : Bytes) (z2 : Int) : Option Int := loopO (lex_run_L1b s_0) z2

noncomputable def lex_run (s_0 : Bytes) : Option Int :=
  (lex_run_L1 s_0 0).bind fun (z1 : Int) =>
  some z1

noncomputable def lex_Name (s_0 : Bytes) : Option Bool :=
  (gd (true && ((cond (s_0 != ([] : Bytes)) (decide ((s_0.length : Int) ≤ 16)) false) == true)) (idxb s_0 0) 0).bind fun (z1 : Int) =>
  (gd (true && ((cond (s_0 != ([] : Bytes)) (decide ((s_0.length : Int) ≤ 16)) false) == true)) (lex_begins z1) false).bind fun (z2 : Bool) =>
  (gd (true && ((cond (cond (s_0 != ([] : Bytes)) (decide ((s_0.length : Int) ≤ 16)) false) z2 false) == true)) (lex_run s_0) 0).bind fun (z3 : Int) =>
  lt (cond (cond (cond (s_0 != ([] : Bytes)) (decide ((s_0.length : Int) ≤ 16)) false) z2 false) (z3 == (s_0.length : Int)) false) fun (z4 : Bool) =>
  some z4

noncomputable def roles_Check_1 (p_0 : T_roles_Pair) : Option Bool :=
  (lex_Name p_0.Low).bind fun (z2 : Bool) =>
  (gd (true && ((!z2) == false)) (lex_Name p_0.High) false).bind fun (z3 : Bool) =>
  some (cond (!z2) true (!z3))

noncomputable def slices_IndexFunc_roles_Pair_roles_Pair_v0_L1b (s_0 : (List T_roles_Pair)) (z2 : Int) : Option (Int ⊕ (Unit ⊕ Int)) :=
  cond (decide (z2 < (s_0.length : Int)))
    ((idx s_0 z2).bind fun (z3 : T_roles_Pair) =>
    (roles_Check_1 z3).bind fun (z4 : Bool) =>
    cond z4
      (brk (brk (some z2)))
      (some (.inl (IntKind.i64.wrap (z2 + 1)))))
    (brk (some (.inl ())))
noncomputable def slices_IndexFunc_roles_Pair_roles_Pair_v0_L1 (s_0 : (List T_roles_Pair)) (z2 : Int) : Option (Unit ⊕ Int) := loopO (slices_IndexFunc_roles_Pair_roles_Pair_v0_L1b s_0) z2

noncomputable def slices_IndexFunc_roles_Pair_roles_Pair_v0 (s_0 : (List T_roles_Pair)) : Option Int :=
  both (slices_IndexFunc_roles_Pair_roles_Pair_v0_L1 s_0 0) fun (z1 : Unit) =>
  some (-1)

noncomputable def slices_ContainsFunc_roles_Pair_roles_Pair_v0 (s_0 : (List T_roles_Pair)) : Option Bool :=
  (slices_IndexFunc_roles_Pair_roles_Pair_v0 s_0).bind fun (z1 : Int) =>
  some (decide (0 ≤ z1))

noncomputable def roles_graph_role_v0 (g_0 : T_roles_graph) (name_1 : Bytes) : Option (Int × T_roles_graph) :=
  lt (((mlook (fun x y => x == y) g_0.number name_1).getD (0 : Int))) fun (n1 : Int) =>
  lt ((mlook (fun x y => x == y) g_0.number name_1).isSome) fun (ok2 : Bool) =>
  cond (!ok2)
    ((mput? (fun x y => x == y) g_0.number name_1 (g_0.names.length : Int)).bind fun (z3 : (Option (List (Bytes × Int)))) =>
    (app 16 g_0.names ([name_1] : List Bytes)).bind fun (z4 : List Bytes) =>
    (app 24 g_0.up [[]]).bind fun (z7 : (List (List Int))) =>
    (app 24 g_0.down [[]]).bind fun (z9 : (List (List Int))) =>
    some ((g_0.names.length : Int), { ({ ({ ({ g_0 with number := z3 }) with names := z4 }) with up := z7 }) with down := z9 }))
    (some (n1, g_0))

noncomputable def roles_graphOf_L1b (l_0 : (List T_roles_Pair)) (z4 : (Int × T_roles_graph)) : Option ((Int × T_roles_graph) ⊕ T_roles_graph) :=
  cond (decide (z4.1 < (l_0.length : Int)))
    ((idx l_0 z4.1).bind fun (z5 : T_roles_Pair) =>
    (roles_graph_role_v0 z4.2 z5.Low).bind fun (z8 : (Int × T_roles_graph)) =>
    (roles_graph_role_v0 z8.2 z5.High).bind fun (z10 : (Int × T_roles_graph)) =>
    (at? z10.2.up z8.1).bind fun (z17 : Nat) =>
    (app 8 (z10.2.up.getD z17 []) ([z10.1] : List Int)).bind fun (z18 : List Int) =>
    (at? z10.2.up z8.1).bind fun (z20 : Nat) =>
    (at? z10.2.down z10.1).bind fun (z26 : Nat) =>
    (app 8 (z10.2.down.getD z26 []) ([z8.1] : List Int)).bind fun (z27 : List Int) =>
    (at? z10.2.down z10.1).bind fun (z29 : Nat) =>
    some (.inl (IntKind.i64.wrap (z4.1 + 1), { ({ z10.2 with up := (z10.2.up.set z17 z18) }) with down := (z10.2.down.set z26 z27) })))
    (brk (some z4.2))
noncomputable def roles_graphOf_L1 (l_0 : (List T_roles_Pair)) (z4 : (Int × T_roles_graph)) : Option T_roles_graph := loopO (roles_graphOf_L1b l_0) z4

noncomputable def roles_graphOf (l_0 : (List T_roles_Pair)) : Option T_roles_graph :=
  (roles_graphOf_L1 l_0 (0, { ({ ({ (⟨(some []), [], [], []⟩ : T_roles_graph) with names := ([] : List Bytes) }) with up := ([] : List (List Int)) }) with down := ([] : List (List Int)) })).bind fun (z3 : T_roles_graph) =>
  some z3

noncomputable def roles_graph_levels_L2b (z8 : (Int × (Option (List (Int × Int))) × (List Int) × (List Int))) (z10 : Nat) (g_0 : T_roles_graph) (z12 : (Int × (Option (List (Int × Int))) × (List Int) × (List Int))) : Option ((Int × (Option (List (Int × Int))) × (List Int) × (List Int)) ⊕ ((Option (List (Int × Int))) × (List Int) × (List Int))) :=
  cond (decide (z12.1 < ((g_0.down.getD z10 []).length : Int)))
    ((idx (g_0.down.getD z10 []) z12.1).bind fun (z13 : Int) =>
    (at? z12.2.2.1 z13).bind fun (z14 : Nat) =>
    (at? z12.2.2.1 z13).bind fun (z15 : Nat) =>
    (at? (z12.2.2.1.set z15 (IntKind.i64.wrap ((z12.2.2.1.getD z14 0) - 1))) z13).bind fun (z16 : Nat) =>
    cond (((z12.2.2.1.set z15 (IntKind.i64.wrap ((z12.2.2.1.getD z14 0) - 1))).getD z16 0) == 0)
      ((at? z12.2.2.2 z8.1).bind fun (z17 : Nat) =>
      (mput? (fun x y => x == y) z12.2.1 z13 (IntKind.i64.wrap (((mlook (fun x y => x == y) z12.2.1 (z12.2.2.2.getD z17 0)).getD (0 : Int)) + 1))).bind fun (z18 : (Option (List (Int × Int)))) =>
      (app 8 z12.2.2.2 ([z13] : List Int)).bind fun (z19 : List Int) =>
      some (.inl (IntKind.i64.wrap (z12.1 + 1), z18, (z12.2.2.1.set z15 (IntKind.i64.wrap ((z12.2.2.1.getD z14 0) - 1))), z19)))
      (some (.inl (IntKind.i64.wrap (z12.1 + 1), z12.2.1, (z12.2.2.1.set z15 (IntKind.i64.wrap ((z12.2.2.1.getD z14 0) - 1))), z12.2.2.2))))
    (brk (some (z12.2.1, z12.2.2.1, z12.2.2.2)))
noncomputable def roles_graph_levels_L2 (z8 : (Int × (Option (List (Int × Int))) × (List Int) × (List Int))) (z10 : Nat) (g_0 : T_roles_graph) (z12 : (Int × (Option (List (Int × Int))) × (List Int) × (List Int))) : Option ((Option (List (Int × Int))) × (List Int) × (List Int)) := loopO (roles_graph_levels_L2b z8 z10 g_0) z12

noncomputable def roles_graph_levels_L1b (g_0 : T_roles_graph) (z8 : (Int × (Option (List (Int × Int))) × (List Int) × (List Int))) : Option ((Int × (Option (List (Int × Int))) × (List Int) × (List Int)) ⊕ (Option (List (Int × Int)))) :=
  cond (decide (z8.1 < (z8.2.2.2.length : Int)))
    ((at? z8.2.2.2 z8.1).bind fun (z9 : Nat) =>
    (at? g_0.down (z8.2.2.2.getD z9 0)).bind fun (z10 : Nat) =>
    (roles_graph_levels_L2 z8 z10 g_0 (0, z8.2.1, z8.2.2.1, z8.2.2.2)).bind fun (z11 : ((Option (List (Int × Int))) × (List Int) × (List Int))) =>
    some (.inl (IntKind.i64.wrap (z8.1 + 1), z11.1, z11.2.1, z11.2.2)))
    (brk (some z8.2.1))
noncomputable def roles_graph_levels_L1 (g_0 : T_roles_graph) (z8 : (Int × (Option (List (Int × Int))) × (List Int) × (List Int))) : Option (Option (List (Int × Int))) := loopO (roles_graph_levels_L1b g_0) z8

noncomputable def roles_graph_levels_L3b (g_0 : T_roles_graph) (z21 : (Int × (Option (List (Int × Int))) × (List Int) × (List Int))) : Option ((Int × (Option (List (Int × Int))) × (List Int) × (List Int)) ⊕ ((Option (List (Int × Int))) × (List Int) × (List Int))) :=
  cond (decide (z21.1 < (g_0.names.length : Int)))
    ((at? g_0.up z21.1).bind fun (z22 : Nat) =>
    (at? z21.2.2.1 z21.1).bind fun (z23 : Nat) =>
    (at? (z21.2.2.1.set z23 ((g_0.up.getD z22 []).length : Int)) z21.1).bind fun (z24 : Nat) =>
    cond (((z21.2.2.1.set z23 ((g_0.up.getD z22 []).length : Int)).getD z24 0) == 0)
      ((mput? (fun x y => x == y) z21.2.1 z21.1 0).bind fun (z25 : (Option (List (Int × Int)))) =>
      (app 8 z21.2.2.2 ([z21.1] : List Int)).bind fun (z26 : List Int) =>
      some (.inl (IntKind.i64.wrap (z21.1 + 1), z25, (z21.2.2.1.set z23 ((g_0.up.getD z22 []).length : Int)), z26)))
      (some (.inl (IntKind.i64.wrap (z21.1 + 1), z21.2.1, (z21.2.2.1.set z23 ((g_0.up.getD z22 []).length : Int)), z21.2.2.2))))
    (brk (some (z21.2.1, z21.2.2.1, z21.2.2.2)))
noncomputable def roles_graph_levels_L3 (g_0 : T_roles_graph) (z21 : (Int × (Option (List (Int × Int))) × (List Int) × (List Int))) : Option ((Option (List (Int × Int))) × (List Int) × (List Int)) := loopO (roles_graph_levels_L3b g_0) z21

noncomputable def roles_graph_levels (g_0 : T_roles_graph) : Option ((Option (List (Int × Int))) × Bool) :=
  (mk 8 (0 : Int) (g_0.names.length : Int)).bind fun (z3 : List Int) =>
  (roles_graph_levels_L3 g_0 (0, (some []), z3, ([] : (List Int)))).bind fun (z5 : ((Option (List (Int × Int))) × (List Int) × (List Int))) =>
  (roles_graph_levels_L1 g_0 (0, z5.1, z5.2.1, z5.2.2)).bind fun (z6 : (Option (List (Int × Int)))) =>
  (mlen z6).bind fun (z7 : Int) =>
  some (z6, z7 == (g_0.names.length : Int))

noncomputable def roles_Check (l_0 : (List T_roles_Pair)) : Option Int :=
  cond (decide (64 < (l_0.length : Int)))
    (some 3)
    ((slices_ContainsFunc_roles_Pair_roles_Pair_v0 l_0).bind fun (z1 : Bool) =>
    cond z1
      (some 16)
      ((roles_graphOf l_0).bind fun (z2 : T_roles_graph) =>
      (roles_graph_levels z2).bind fun (z10 : ((Option (List (Int × Int))) × Bool)) =>
      cond (!z10.2)
        (some 9)
        (some 0)))

noncomputable def roles_graph_role (g_0 : T_roles_graph) (name_1 : Bytes) : Option (Int × T_roles_graph) :=
  lt (((mlook (fun x y => x == y) g_0.number name_1).getD (0 : Int))) fun (n1 : Int) =>
  lt ((mlook (fun x y => x == y) g_0.number name_1).isSome) fun (ok2 : Bool) =>
  cond (!ok2)
    ((mput? (fun x y => x == y) g_0.number name_1 (g_0.names.length : Int)).bind fun (z3 : (Option (List (Bytes × Int)))) =>
    (app 16 g_0.names ([name_1] : List Bytes)).bind fun (z4 : List Bytes) =>
    (app 24 g_0.up ([([] : (List Int))] : List (List Int))).bind fun (z7 : List (List Int)) =>
    (app 24 g_0.down ([([] : (List Int))] : List (List Int))).bind fun (z9 : List (List Int)) =>
    some ((g_0.names.length : Int), { ({ ({ ({ g_0 with number := z3 }) with names := z4 }) with up := z7 }) with down := z9 }))
    (some (n1, g_0))

noncomputable def roles_graph_reached_1_v0 (role_0 : Int) (a_1 : (List Bool)) (a_2 : (List Int)) : Option ((List Bool) × (List Int)) :=
  (at? a_1 role_0).bind fun (z1 : Nat) =>
  cond (!(a_1.getD z1 false))
    ((at? a_1 role_0).bind fun (z2 : Nat) =>
    (app 8 a_2 ([role_0] : List Int)).bind fun (z3 : List Int) =>
    some ((a_1.set z2 true), z3))
    (some (a_1, a_2))

noncomputable def roles_graph_reached_L2b (z11 : Nat) (g_0 : T_roles_graph) (z13 : (Int × (List Int) × (List Bool))) : Option ((Int × (List Int) × (List Bool)) ⊕ ((List Int) × (List Bool))) :=
  cond (decide (z13.1 < ((g_0.up.getD z11 []).length : Int)))
    ((idx (g_0.up.getD z11 []) z13.1).bind fun (z14 : Int) =>
    (roles_graph_reached_1_v0 z14 z13.2.2 z13.2.1).bind fun (z15 : ((List Bool) × (List Int))) =>
    some (.inl (IntKind.i64.wrap (z13.1 + 1), z15.2, z15.1)))
    (brk (some (z13.2.1, z13.2.2)))
noncomputable def roles_graph_reached_L2 (z11 : Nat) (g_0 : T_roles_graph) (z13 : (Int × (List Int) × (List Bool))) : Option ((List Int) × (List Bool)) := loopO (roles_graph_reached_L2b z11 g_0) z13

noncomputable def roles_graph_reached_L1b (g_0 : T_roles_graph) (z7 : ((List Int) × (List Bool))) : Option (((List Int) × (List Bool)) ⊕ (List Bool)) :=
  cond (decide (0 < (z7.1.length : Int)))
    ((at? z7.1 (IntKind.i64.wrap ((z7.1.length : Int) - 1))).bind fun (z8 : Nat) =>
    (cutp z7.1.length (IntKind.i64.wrap ((z7.1.length : Int) - 1))).bind fun (z9 : Nat) =>
    chk z7.1.length (0, z9) <|
    (at? g_0.up (z7.1.getD z8 0)).bind fun (z11 : Nat) =>
    (roles_graph_reached_L2 z11 g_0 (0, (z7.1.take z9), z7.2)).bind fun (z12 : ((List Int) × (List Bool))) =>
    some (.inl (z12.1, z12.2)))
    (brk (some z7.2))
noncomputable def roles_graph_reached_L1 (g_0 : T_roles_graph) (z7 : ((List Int) × (List Bool))) : Option (List Bool) := loopO (roles_graph_reached_L1b g_0) z7

noncomputable def roles_graph_reached_L3b (a_1 : (List Int)) (z19 : (Int × (List Int) × (List Bool))) : Option ((Int × (List Int) × (List Bool)) ⊕ ((List Int) × (List Bool))) :=
  cond (decide (z19.1 < (a_1.length : Int)))
    ((idx a_1 z19.1).bind fun (z20 : Int) =>
    (roles_graph_reached_1_v0 z20 z19.2.2 z19.2.1).bind fun (z21 : ((List Bool) × (List Int))) =>
    some (.inl (IntKind.i64.wrap (z19.1 + 1), z21.2, z21.1)))
    (brk (some (z19.2.1, z19.2.2)))
noncomputable def roles_graph_reached_L3 (a_1 : (List Int)) (z19 : (Int × (List Int) × (List Bool))) : Option ((List Int) × (List Bool)) := loopO (roles_graph_reached_L3b a_1) z19

noncomputable def roles_graph_reached (g_0 : T_roles_graph) (a_1 : (List Int)) : Option (List Bool) :=
  (mk 1 (false : Bool) (g_0.names.length : Int)).bind fun (z1 : List Bool) =>
  (roles_graph_reached_L3 a_1 (0, ([] : (List Int)), z1)).bind fun (z5 : ((List Int) × (List Bool))) =>
  (roles_graph_reached_L1 g_0 (z5.1, z5.2)).bind fun (z6 : (List Bool)) =>
  some z6

noncomputable def slices_SortS (xs : (List Bytes)) : Option (List Bytes) := sortS xs

noncomputable def roles_Reach_L1b (z9 : (Int × T_roles_graph)) (z15 : (List Bool)) (z21 : (Int × (List Bytes))) : Option ((Int × (List Bytes)) ⊕ (List Bytes)) :=
  cond (decide (z21.1 < (z15.length : Int)))
    ((at? z15 z21.1).bind fun (z22 : Nat) =>
    cond (z15.getD z22 false)
      ((at? z9.2.names z21.1).bind fun (z23 : Nat) =>
      (app 16 z21.2 ([(z9.2.names.getD z23 [])] : List Bytes)).bind fun (z24 : List Bytes) =>
      some (.inl (IntKind.i64.wrap (z21.1 + 1), z24)))
      (some (.inl (IntKind.i64.wrap (z21.1 + 1), z21.2))))
    (brk (some z21.2))
noncomputable def roles_Reach_L1 (z9 : (Int × T_roles_graph)) (z15 : (List Bool)) (z21 : (Int × (List Bytes))) : Option (List Bytes) := loopO (roles_Reach_L1b z9 z15) z21

noncomputable def roles_Reach (l_0 : (List T_roles_Pair)) (role_1 : Bytes) : Option (List Bytes) :=
  (roles_graphOf l_0).bind fun (z1 : T_roles_graph) =>
  (roles_graph_role z1 role_1).bind fun (z9 : (Int × T_roles_graph)) =>
  (roles_graph_reached z9.2 ([z9.1] : List Int)).bind fun (z15 : (List Bool)) =>
  (roles_Reach_L1 z9 z15 (0, ([] : (List Bytes)))).bind fun (z18 : (List Bytes)) =>
  (slices_SortS z18).bind fun (z19 : (List Bytes)) =>
  some z19

noncomputable def roles_Has (l_0 : (List T_roles_Pair)) (low_1 : Bytes) (high_2 : Bytes) : Option Bool :=
  (roles_graphOf l_0).bind fun (z1 : T_roles_graph) =>
  (roles_graph_role z1 low_1).bind fun (z9 : (Int × T_roles_graph)) =>
  (roles_graph_role z9.2 high_2).bind fun (z15 : (Int × T_roles_graph)) =>
  (roles_graph_reached z15.2 ([z9.1] : List Int)).bind fun (z21 : (List Bool)) =>
  (at? z21 z15.1).bind fun (z24 : Nat) =>
  some (z21.getD z24 false)

noncomputable def roles_Level (l_0 : (List T_roles_Pair)) (role_1 : Bytes) : Option Int :=
  (roles_graphOf l_0).bind fun (z1 : T_roles_graph) =>
  (roles_graph_role z1 role_1).bind fun (z9 : (Int × T_roles_graph)) =>
  (roles_graph_levels z9.2).bind fun (z15 : ((Option (List (Int × Int))) × Bool)) =>
  cond (!z15.2)
    (some (-1))
    (lt (((mlook (fun x y => x == y) z15.1 z9.1).getD (0 : Int))) fun (z18 : Int) =>
    some z18)

noncomputable def roles_Tops_L1b (z1 : T_roles_graph) (z12 : (Int × (List Bytes))) : Option ((Int × (List Bytes)) ⊕ (List Bytes)) :=
  cond (decide (z12.1 < (z1.names.length : Int)))
    ((at? z1.names z12.1).bind fun (z13 : Nat) =>
    (at? z1.up z12.1).bind fun (z14 : Nat) =>
    cond (((z1.up.getD z14 []).length : Int) == 0)
      ((app 16 z12.2 ([(z1.names.getD z13 [])] : List Bytes)).bind fun (z15 : List Bytes) =>
      some (.inl (IntKind.i64.wrap (z12.1 + 1), z15)))
      (some (.inl (IntKind.i64.wrap (z12.1 + 1), z12.2))))
    (brk (some z12.2))
noncomputable def roles_Tops_L1 (z1 : T_roles_graph) (z12 : (Int × (List Bytes))) : Option (List Bytes) := loopO (roles_Tops_L1b z1) z12

noncomputable def roles_Tops (l_0 : (List T_roles_Pair)) : Option (List Bytes) :=
  (roles_graphOf l_0).bind fun (z1 : T_roles_graph) =>
  (roles_Tops_L1 z1 (0, ([] : (List Bytes)))).bind fun (z9 : (List Bytes)) =>
  (slices_SortS z9).bind fun (z10 : (List Bytes)) =>
  some z10

noncomputable def slices_Clone_roles_Pair_roles_Pair (s_0 : (List T_roles_Pair)) : Option (List T_roles_Pair) :=
  alt s_0
    (some [])
    ((app 32 ([] : List T_roles_Pair) s_0).bind fun (z2 : List T_roles_Pair) =>
    some z2)

noncomputable def cmp_isNaN_string (x_0 : Bytes) : Option Bool :=
  some (x_0 != x_0)

noncomputable def cmp_Compare_string (x_0 : Bytes) (y_1 : Bytes) : Option Int :=
  (cmp_isNaN_string x_0).bind fun (z1 : Bool) =>
  (cmp_isNaN_string y_1).bind fun (z2 : Bool) =>
  cond z1
    (cond z2
      (some 0)
      (some (-1)))
    (cond z2
      (some 1)
      (cond (less x_0 y_1)
        (some (-1))
        (cond (!(less x_0 y_1 || x_0 == y_1))
          (some 1)
          (some 0))))

noncomputable def cmp_Or_int_L1b (vals_0 : (List Int)) (z2 : Int) : Option (Int ⊕ (Unit ⊕ Int)) :=
  cond (decide (z2 < (vals_0.length : Int)))
    ((idx vals_0 z2).bind fun (z3 : Int) =>
    cond (z3 != 0)
      (brk (brk (some z3)))
      (some (.inl (IntKind.i64.wrap (z2 + 1)))))
    (brk (some (.inl ())))
noncomputable def cmp_Or_int_L1 (vals_0 : (List Int)) (z2 : Int) : Option (Unit ⊕ Int) := loopO (cmp_Or_int_L1b vals_0) z2

noncomputable def cmp_Or_int (vals_0 : (List Int)) : Option Int :=
  both (cmp_Or_int_L1 vals_0 0) fun (z1 : Unit) =>
  some 0

noncomputable def roles_Reduce_1 (a_0 : T_roles_Pair) (b_1 : T_roles_Pair) : Option Int :=
  (cmp_Compare_string a_0.Low b_1.Low).bind fun (z3 : Int) =>
  (cmp_Compare_string a_0.High b_1.High).bind fun (z4 : Int) =>
  (cmp_Or_int ([z3, z4] : List Int)).bind fun (z5 : Int) =>
  some z5

noncomputable def slices_SortFunc_32_roles_Reduce_1 (xs : (List T_roles_Pair)) : Option (List T_roles_Pair) := sortF roles_Reduce_1 xs

noncomputable def slices_Compact_roles_Pair_roles_Pair_v0_L2b (z5 : Nat × Nat) (z9 : (Int × Int × (List T_roles_Pair))) : Option ((Int × Int × (List T_roles_Pair)) ⊕ (Int × (List T_roles_Pair))) :=
  chk z9.2.2.length (z5.1, z5.2) <|
  cond (decide (z9.2.1 < ((z5.2 - z5.1 : Nat) : Int)))
    ((at? ((z9.2.2.drop z5.1).take (z5.2 - z5.1)) z9.2.1).bind fun (z11 : Nat) =>
    (at? ((z9.2.2.drop z5.1).take (z5.2 - z5.1)) (IntKind.i64.wrap (z9.2.1 - 1))).bind fun (z12 : Nat) =>
    cond (!(T_roles_Pair_eqb (z9.2.2.getD (z5.1 + z11) T_roles_Pair_zero) (z9.2.2.getD (z5.1 + z12) T_roles_Pair_zero)))
      ((at? ((z9.2.2.drop z5.1).take (z5.2 - z5.1)) z9.2.1).bind fun (z13 : Nat) =>
      (at? z9.2.2 z9.1).bind fun (z14 : Nat) =>
      some (.inl (IntKind.i64.wrap (z9.1 + 1), IntKind.i64.wrap (z9.2.1 + 1), (z9.2.2.set z14 (z9.2.2.getD (z5.1 + z13) T_roles_Pair_zero)))))
      (some (.inl (z9.1, IntKind.i64.wrap (z9.2.1 + 1), z9.2.2))))
    (brk (some (z9.1, z9.2.2)))
noncomputable def slices_Compact_roles_Pair_roles_Pair_v0_L2 (z5 : Nat × Nat) (z9 : (Int × Int × (List T_roles_Pair))) : Option (Int × (List T_roles_Pair)) := loopO (slices_Compact_roles_Pair_roles_Pair_v0_L2b z5) z9

noncomputable def slices_Compact_roles_Pair_roles_Pair_v0_L1b (s_0 : (List T_roles_Pair)) (z2 : Int) : Option (Int ⊕ (Unit ⊕ (List T_roles_Pair))) :=
  cond (decide (z2 < (s_0.length : Int)))
    ((at? s_0 z2).bind fun (z3 : Nat) =>
    (at? s_0 (IntKind.i64.wrap (z2 - 1))).bind fun (z4 : Nat) =>
    cond (T_roles_Pair_eqb (s_0.getD z3 T_roles_Pair_zero) (s_0.getD z4 T_roles_Pair_zero))
      ((cut s_0.length z2 (s_0.length)).bind fun (z5 : Nat × Nat) =>
      (slices_Compact_roles_Pair_roles_Pair_v0_L2 z5 (z2, 1, s_0)).bind fun (z6 : (Int × (List T_roles_Pair))) =>
      (cut z6.2.length z6.1 (z6.2.length)).bind fun (z7 : Nat × Nat) =>
      (sub (z6.2.take z7.1 ++ List.replicate (z7.2 - z7.1) T_roles_Pair_zero ++ z6.2.drop z7.2) 0 z6.1).bind fun (z8 : (List T_roles_Pair)) =>
      brk (brk (some z8)))
      (some (.inl (IntKind.i64.wrap (z2 + 1)))))
    (brk (some (.inl ())))
noncomputable def slices_Compact_roles_Pair_roles_Pair_v0_L1 (s_0 : (List T_roles_Pair)) (z2 : Int) : Option (Unit ⊕ (List T_roles_Pair)) := loopO (slices_Compact_roles_Pair_roles_Pair_v0_L1b s_0) z2

noncomputable def slices_Compact_roles_Pair_roles_Pair_v0 (s_0 : (List T_roles_Pair)) : Option (List T_roles_Pair) :=
  cond (decide ((s_0.length : Int) < 2))
    (some s_0)
    (both (slices_Compact_roles_Pair_roles_Pair_v0_L1 s_0 1) fun (z1 : Unit) =>
    some s_0)

noncomputable def roles_graph_beyond_L1b (z1 : Nat) (g_0 : T_roles_graph) (z6 : (Int × (List Int))) : Option ((Int × (List Int)) ⊕ (List Int)) :=
  cond (decide (z6.1 < ((g_0.up.getD z1 []).length : Int)))
    ((idx (g_0.up.getD z1 []) z6.1).bind fun (z7 : Int) =>
    (at? g_0.up z7).bind fun (z8 : Nat) =>
    (app 8 z6.2 (g_0.up.getD z8 [])).bind fun (z9 : List Int) =>
    some (.inl (IntKind.i64.wrap (z6.1 + 1), z9)))
    (brk (some z6.2))
noncomputable def roles_graph_beyond_L1 (z1 : Nat) (g_0 : T_roles_graph) (z6 : (Int × (List Int))) : Option (List Int) := loopO (roles_graph_beyond_L1b z1 g_0) z6

noncomputable def roles_graph_beyond (g_0 : T_roles_graph) (low_1 : Int) : Option (List Bool) :=
  (at? g_0.up low_1).bind fun (z1 : Nat) =>
  (roles_graph_beyond_L1 z1 g_0 (0, ([] : (List Int)))).bind fun (z2 : (List Int)) =>
  (roles_graph_reached g_0 z2).bind fun (z3 : (List Bool)) =>
  some z3

noncomputable def roles_Reduce_L1b (z1 : T_roles_graph) (z17 : (List T_roles_Pair)) (z20 : ((List Bool) × Int × (List T_roles_Pair))) : Option (((List Bool) × Int × (List T_roles_Pair)) ⊕ (List T_roles_Pair)) :=
  cond (decide (z20.2.1 < (z17.length : Int)))
    ((idx z17 z20.2.1).bind fun (z21 : T_roles_Pair) =>
    (gd (true && ((z20.2.1 == 0) == false)) (idx z17 (IntKind.i64.wrap (z20.2.1 - 1))) T_roles_Pair_zero).bind fun (z23 : T_roles_Pair) =>
    (cond (cond (z20.2.1 == 0) true (z23.Low != z21.Low))
      ((roles_graph_beyond z1 ((mlook (fun x y => x == y) z1.number z21.Low).getD (0 : Int))).bind fun (z28 : (List Bool)) =>
      some z28)
      (some z20.1)).bind fun (z24 : (List Bool)) =>
    (idx z24 ((mlook (fun x y => x == y) z1.number z21.High).getD (0 : Int))).bind fun (z25 : Bool) =>
    cond (!z25)
      ((app 32 z20.2.2 ([z21] : List T_roles_Pair)).bind fun (z26 : List T_roles_Pair) =>
      some (.inl (z24, IntKind.i64.wrap (z20.2.1 + 1), z26)))
      (some (.inl (z24, IntKind.i64.wrap (z20.2.1 + 1), z20.2.2))))
    (brk (some z20.2.2))
noncomputable def roles_Reduce_L1 (z1 : T_roles_graph) (z17 : (List T_roles_Pair)) (z20 : ((List Bool) × Int × (List T_roles_Pair))) : Option (List T_roles_Pair) := loopO (roles_Reduce_L1b z1 z17) z20

noncomputable def roles_Reduce (l_0 : (List T_roles_Pair)) : Option (List T_roles_Pair) :=
  (roles_graphOf l_0).bind fun (z1 : T_roles_graph) =>
  (slices_Clone_roles_Pair_roles_Pair l_0).bind fun (z9 : (List T_roles_Pair)) =>
  (roles_graph_levels z1).bind fun (z12 : ((Option (List (Int × Int))) × Bool)) =>
  cond (!z12.2)
    (some z9)
    ((slices_SortFunc_32_roles_Reduce_1 z9).bind fun (z15 : (List T_roles_Pair)) =>
    (slices_Compact_roles_Pair_roles_Pair_v0 z15).bind fun (z17 : (List T_roles_Pair)) =>
    (roles_Reduce_L1 z1 z17 (([] : (List Bool)), 0, ([] : (List T_roles_Pair)))).bind fun (z19 : (List T_roles_Pair)) =>
    some z19)

noncomputable def law31_alive  : Option Bool :=
  lt (([(⟨([97] : Bytes), ([98] : Bytes)⟩ : T_roles_Pair), (⟨([98] : Bytes), ([99] : Bytes)⟩ : T_roles_Pair), (⟨([97] : Bytes), ([99] : Bytes)⟩ : T_roles_Pair)] : List T_roles_Pair)) fun (l1 : (List T_roles_Pair)) =>
  (roles_Check l1).bind fun (z2 : Int) =>
  (gd (true && ((z2 == 0) == true)) (roles_Reach l1 ([97] : Bytes)) []).bind fun (z3 : (List Bytes)) =>
  (gd (true && ((cond (z2 == 0) ((z3.length : Int) == 3) false) == true)) (roles_Has l1 ([97] : Bytes) ([99] : Bytes)) false).bind fun (z5 : Bool) =>
  (gd (true && ((cond (cond (z2 == 0) ((z3.length : Int) == 3) false) z5 false) == true)) (roles_Level l1 ([97] : Bytes)) 0).bind fun (z6 : Int) =>
  (gd (true && ((cond (cond (cond (z2 == 0) ((z3.length : Int) == 3) false) z5 false) (z6 == 2) false) == true)) (roles_Tops l1) []).bind fun (z7 : (List Bytes)) =>
  (gd (true && ((cond (cond (cond (cond (z2 == 0) ((z3.length : Int) == 3) false) z5 false) (z6 == 2) false) ((z7.length : Int) == 1) false) == true)) (roles_Reduce l1) []).bind fun (z9 : (List T_roles_Pair)) =>
  lt (cond (cond (cond (cond (cond (z2 == 0) ((z3.length : Int) == 3) false) z5 false) (z6 == 2) false) ((z7.length : Int) == 1) false) ((z9.length : Int) == 2) false) fun (z11 : Bool) =>
  some z11

noncomputable def law31_few (l_0 : (List T_roles_Pair)) : Option (List T_roles_Pair) :=
  cond (decide (30 < (l_0.length : Int)))
    ((sub l_0 0 30).bind fun (z1 : (List T_roles_Pair)) =>
    some z1)
    (some l_0)

noncomputable def plain_In_L1b (l_0 : (List Bytes)) (s_1 : Bytes) (z2 : Int) : Option (Int ⊕ (Unit ⊕ Bool)) :=
  cond (decide (z2 < (l_0.length : Int)))
    ((idx l_0 z2).bind fun (z3 : Bytes) =>
    cond (z3 == s_1)
      (brk (brk (some true)))
      (some (.inl (IntKind.i64.wrap (z2 + 1)))))
    (brk (some (.inl ())))
noncomputable def plain_In_L1 (l_0 : (List Bytes)) (s_1 : Bytes) (z2 : Int) : Option (Unit ⊕ Bool) := loopO (plain_In_L1b l_0 s_1) z2

noncomputable def plain_In (l_0 : (List Bytes)) (s_1 : Bytes) : Option Bool :=
  both (plain_In_L1 l_0 s_1 0) fun (z1 : Unit) =>
  some false

noncomputable def law31_reach_L2b (l_0 : (List T_roles_Pair)) (z5 : (Int × (List Bytes))) : Option ((Int × (List Bytes)) ⊕ (List Bytes)) :=
  cond (decide (z5.1 < (l_0.length : Int)))
    ((idx l_0 z5.1).bind fun (z6 : T_roles_Pair) =>
    (plain_In z5.2 z6.Low).bind fun (z7 : Bool) =>
    (gd (true && (z7 == true)) (idx l_0 z5.1) T_roles_Pair_zero).bind fun (z8 : T_roles_Pair) =>
    (gd (true && (z7 == true)) (plain_In z5.2 z8.High) false).bind fun (z9 : Bool) =>
    cond (cond z7 (!z9) false)
      ((idx l_0 z5.1).bind fun (z10 : T_roles_Pair) =>
      (app 16 z5.2 ([z10.High] : List Bytes)).bind fun (z11 : List Bytes) =>
      some (.inl (IntKind.i64.wrap (z5.1 + 1), z11)))
      (some (.inl (IntKind.i64.wrap (z5.1 + 1), z5.2))))
    (brk (some z5.2))
noncomputable def law31_reach_L2 (l_0 : (List T_roles_Pair)) (z5 : (Int × (List Bytes))) : Option (List Bytes) := loopO (law31_reach_L2b l_0) z5

noncomputable def law31_reach_L1b (l_0 : (List T_roles_Pair)) (z3 : (Int × (List Bytes))) : Option ((Int × (List Bytes)) ⊕ (List Bytes)) :=
  cond (decide (z3.1 < (l_0.length : Int)))
    ((law31_reach_L2 l_0 (0, z3.2)).bind fun (z4 : (List Bytes)) =>
    cond ((z4.length : Int) == (z3.2.length : Int))
      (brk (some z4))
      (some (.inl (IntKind.i64.wrap (z3.1 + 1), z4))))
    (brk (some z3.2))
noncomputable def law31_reach_L1 (l_0 : (List T_roles_Pair)) (z3 : (Int × (List Bytes))) : Option (List Bytes) := loopO (law31_reach_L1b l_0) z3

noncomputable def law31_reach (l_0 : (List T_roles_Pair)) (role_1 : Bytes) : Option (List Bytes) :=
  (law31_reach_L1 l_0 (0, ([role_1] : List Bytes))).bind fun (z2 : (List Bytes)) =>
  some z2

noncomputable def plain_Rising_L2b (z2 : ((List Bytes) × Int)) (l_0 : (List Bytes)) (z15 : Int) : Option (Int ⊕ Int) :=
  (gd (true && ((decide (z15 < (z2.1.length : Int))) == true)) (idx z2.1 z15) []).bind fun (z16 : Bytes) =>
  (gd (true && ((decide (z15 < (z2.1.length : Int))) == true)) (idx l_0 z2.2) []).bind fun (z17 : Bytes) =>
  cond (cond (decide (z15 < (z2.1.length : Int))) (less z16 z17) false)
    (some (.inl (IntKind.i64.wrap (z15 + 1))))
    (brk (some z15))
noncomputable def plain_Rising_L2 (z2 : ((List Bytes) × Int)) (l_0 : (List Bytes)) (z15 : Int) : Option Int := loopO (plain_Rising_L2b z2 l_0) z15

noncomputable def plain_Rising_L1b (l_0 : (List Bytes)) (z2 : ((List Bytes) × Int)) : Option (((List Bytes) × Int) ⊕ (List Bytes)) :=
  cond (decide (z2.2 < (l_0.length : Int)))
    ((idx l_0 z2.2).bind fun (z3 : Bytes) =>
    (plain_In z2.1 z3).bind fun (z4 : Bool) =>
    cond z4
      (some (.inl (z2.1, IntKind.i64.wrap (z2.2 + 1))))
      ((plain_Rising_L2 z2 l_0 0).bind fun (z5 : Int) =>
      (sub z2.1 0 z5).bind fun (z6 : (List Bytes)) =>
      (app 16 ([] : List Bytes) z6).bind fun (z7 : List Bytes) =>
      (idx l_0 z2.2).bind fun (z9 : Bytes) =>
      (app 16 z7 ([z9] : List Bytes)).bind fun (z10 : List Bytes) =>
      (sub z2.1 z5 (z2.1.length)).bind fun (z12 : (List Bytes)) =>
      (app 16 z10 z12).bind fun (z13 : List Bytes) =>
      some (.inl (z13, IntKind.i64.wrap (z2.2 + 1)))))
    (brk (some z2.1))
noncomputable def plain_Rising_L1 (l_0 : (List Bytes)) (z2 : ((List Bytes) × Int)) : Option (List Bytes) := loopO (plain_Rising_L1b l_0) z2

noncomputable def plain_Rising (l_0 : (List Bytes)) : Option (List Bytes) :=
  (plain_Rising_L1 l_0 (([] : (List Bytes)), 0)).bind fun (z1 : (List Bytes)) =>
  some z1

noncomputable def plain_Texts_L1b (a_0 : (List Bytes)) (b_1 : (List Bytes)) (z2 : Int) : Option (Int ⊕ (Unit ⊕ Bool)) :=
  cond (decide (z2 < (a_0.length : Int)))
    ((idx a_0 z2).bind fun (z3 : Bytes) =>
    (idx b_1 z2).bind fun (z4 : Bytes) =>
    cond (z3 != z4)
      (brk (brk (some false)))
      (some (.inl (IntKind.i64.wrap (z2 + 1)))))
    (brk (some (.inl ())))
noncomputable def plain_Texts_L1 (a_0 : (List Bytes)) (b_1 : (List Bytes)) (z2 : Int) : Option (Unit ⊕ Bool) := loopO (plain_Texts_L1b a_0 b_1) z2

noncomputable def plain_Texts (a_0 : (List Bytes)) (b_1 : (List Bytes)) : Option Bool :=
  cond ((a_0.length : Int) != (b_1.length : Int))
    (some false)
    (both (plain_Texts_L1 a_0 b_1 0) fun (z1 : Unit) =>
    some true)

noncomputable def law31_RolesReaches (l_0 : (List T_roles_Pair)) (a_1 : Bytes) (b_2 : Bytes) : Option Bool :=
  (law31_alive ).bind fun (z1 : Bool) =>
  cond (!z1)
    (some false)
    ((law31_few l_0).bind fun (z2 : (List T_roles_Pair)) =>
    (law31_reach z2 a_1).bind fun (z3 : (List Bytes)) =>
    (roles_Reach z2 a_1).bind fun (z6 : (List Bytes)) =>
    (plain_Rising z3).bind fun (z9 : (List Bytes)) =>
    (plain_Texts z6 z9).bind fun (z10 : Bool) =>
    (gd (true && (z10 == true)) (roles_Has z2 a_1 b_2) false).bind fun (z11 : Bool) =>
    (gd (true && (z10 == true)) (plain_In z3 b_2) false).bind fun (z12 : Bool) =>
    some (cond z10 (z11 == z12) false))

noncomputable def ref06_head (c_0 : Int) : Option Bool :=
  lt (cond (cond (cond (decide (97 ≤ c_0)) (decide (c_0 ≤ 122)) false) true (cond (decide (65 ≤ c_0)) (decide (c_0 ≤ 90)) false)) true (c_0 == 95)) fun (z1 : Bool) =>
  some z1

noncomputable def ref06_tail (c_0 : Int) : Option Bool :=
  (ref06_head c_0).bind fun (z1 : Bool) =>
  lt (cond z1 true (cond (decide (48 ≤ c_0)) (decide (c_0 ≤ 57)) false)) fun (z2 : Bool) =>
  some z2

noncomputable def ref06_Name_L1b (s_0 : Bytes) (z4 : Int) : Option (Int ⊕ (Unit ⊕ Bool)) :=
  cond (decide (z4 < (s_0.length : Int)))
    ((idxb s_0 z4).bind fun (z5 : Int) =>
    (ref06_tail z5).bind fun (z6 : Bool) =>
    cond (!z6)
      (brk (brk (some false)))
      (some (.inl (IntKind.i64.wrap (z4 + 1)))))
    (brk (some (.inl ())))
noncomputable def ref06_Name_L1 (s_0 : Bytes) (z4 : Int) : Option (Unit ⊕ Bool) := loopO (ref06_Name_L1b s_0) z4

noncomputable def ref06_Name (s_0 : Bytes) : Option Bool :=
  (gd (true && ((cond (s_0 == ([] : Bytes)) true (decide (16 < (s_0.length : Int)))) == false)) (idxb s_0 0) 0).bind fun (z1 : Int) =>
  (gd (true && ((cond (s_0 == ([] : Bytes)) true (decide (16 < (s_0.length : Int)))) == false)) (ref06_head z1) false).bind fun (z2 : Bool) =>
  cond (cond (cond (s_0 == ([] : Bytes)) true (decide (16 < (s_0.length : Int)))) true (!z2))
    (some false)
    (both (ref06_Name_L1 s_0 1) fun (z3 : Unit) =>
    some true)

noncomputable def law31_ring_L1b (l_0 : (List T_roles_Pair)) (z2 : Int) : Option (Int ⊕ (Unit ⊕ Bool)) :=
  cond (decide (z2 < (l_0.length : Int)))
    ((idx l_0 z2).bind fun (z3 : T_roles_Pair) =>
    (law31_reach l_0 z3.High).bind fun (z4 : (List Bytes)) =>
    (idx l_0 z2).bind fun (z6 : T_roles_Pair) =>
    (plain_In z4 z6.Low).bind fun (z7 : Bool) =>
    cond z7
      (brk (brk (some true)))
      (some (.inl (IntKind.i64.wrap (z2 + 1)))))
    (brk (some (.inl ())))
noncomputable def law31_ring_L1 (l_0 : (List T_roles_Pair)) (z2 : Int) : Option (Unit ⊕ Bool) := loopO (law31_ring_L1b l_0) z2

noncomputable def law31_ring (l_0 : (List T_roles_Pair)) : Option Bool :=
  both (law31_ring_L1 l_0 0) fun (z1 : Unit) =>
  some false

noncomputable def law31_check_L1b (l_0 : (List T_roles_Pair)) (z3 : Int) : Option (Int ⊕ (Unit ⊕ Int)) :=
  cond (decide (z3 < (l_0.length : Int)))
    ((idx l_0 z3).bind fun (z4 : T_roles_Pair) =>
    (ref06_Name z4.Low).bind fun (z5 : Bool) =>
    (gd (true && ((!z5) == false)) (idx l_0 z3) T_roles_Pair_zero).bind fun (z6 : T_roles_Pair) =>
    (gd (true && ((!z5) == false)) (ref06_Name z6.High) false).bind fun (z7 : Bool) =>
    cond (cond (!z5) true (!z7))
      (brk (brk (some 16)))
      (some (.inl (IntKind.i64.wrap (z3 + 1)))))
    (brk (some (.inl ())))
noncomputable def law31_check_L1 (l_0 : (List T_roles_Pair)) (z3 : Int) : Option (Unit ⊕ Int) := loopO (law31_check_L1b l_0) z3

noncomputable def law31_check (l_0 : (List T_roles_Pair)) : Option Int :=
  cond (decide (64 < (l_0.length : Int)))
    (some 3)
    (both (law31_check_L1 l_0 0) fun (z1 : Unit) =>
    (law31_ring l_0).bind fun (z2 : Bool) =>
    cond z2
      (some 9)
      (some 0))

noncomputable def law31_RolesChecks_L1b (z3 : ((List Bytes) × (List Bytes))) (z4 : (List Bytes)) (z11 : (Int × (List Bytes))) : Option ((Int × (List Bytes)) ⊕ (List Bytes)) :=
  cond (decide (z11.1 < (z4.length : Int)))
    ((idx z4 z11.1).bind fun (z12 : Bytes) =>
    (plain_In z3.1 z12).bind fun (z13 : Bool) =>
    cond (!z13)
      ((idx z4 z11.1).bind fun (z14 : Bytes) =>
      (app 16 z11.2 ([z14] : List Bytes)).bind fun (z15 : List Bytes) =>
      some (.inl (IntKind.i64.wrap (z11.1 + 1), z15)))
      (some (.inl (IntKind.i64.wrap (z11.1 + 1), z11.2))))
    (brk (some z11.2))
noncomputable def law31_RolesChecks_L1 (z3 : ((List Bytes) × (List Bytes))) (z4 : (List Bytes)) (z11 : (Int × (List Bytes))) : Option (List Bytes) := loopO (law31_RolesChecks_L1b z3 z4) z11

noncomputable def law31_RolesChecks_L2b (l_0 : (List T_roles_Pair)) (z17 : (Int × (List Bytes) × (List Bytes))) : Option ((Int × (List Bytes) × (List Bytes)) ⊕ ((List Bytes) × (List Bytes))) :=
  cond (decide (z17.1 < (l_0.length : Int)))
    ((idx l_0 z17.1).bind fun (z18 : T_roles_Pair) =>
    (app 16 z17.2.1 ([z18.Low] : List Bytes)).bind fun (z19 : List Bytes) =>
    (idx l_0 z17.1).bind fun (z22 : T_roles_Pair) =>
    (idx l_0 z17.1).bind fun (z23 : T_roles_Pair) =>
    (app 16 z17.2.2 ([z22.Low, z23.High] : List Bytes)).bind fun (z24 : List Bytes) =>
    some (.inl (IntKind.i64.wrap (z17.1 + 1), z19, z24)))
    (brk (some (z17.2.1, z17.2.2)))
noncomputable def law31_RolesChecks_L2 (l_0 : (List T_roles_Pair)) (z17 : (Int × (List Bytes) × (List Bytes))) : Option ((List Bytes) × (List Bytes)) := loopO (law31_RolesChecks_L2b l_0) z17

noncomputable def law31_RolesChecks (l_0 : (List T_roles_Pair)) : Option Bool :=
  (law31_alive ).bind fun (z1 : Bool) =>
  cond (!z1)
    (some false)
    (cond (decide (64 < (l_0.length : Int)))
      ((roles_Check l_0).bind fun (z2 : Int) =>
      some (z2 == 3))
      ((law31_RolesChecks_L2 l_0 (0, ([] : (List Bytes)), ([] : (List Bytes)))).bind fun (z3 : ((List Bytes) × (List Bytes))) =>
      (plain_Rising z3.2).bind fun (z4 : (List Bytes)) =>
      (law31_RolesChecks_L1 z3 z4 (0, ([] : (List Bytes)))).bind fun (z5 : (List Bytes)) =>
      (roles_Check l_0).bind fun (z6 : Int) =>
      (law31_check l_0).bind fun (z7 : Int) =>
      (gd (true && ((z6 == z7) == true)) (roles_Tops l_0) []).bind fun (z8 : (List Bytes)) =>
      (gd (true && ((z6 == z7) == true)) (plain_Texts z8 z5) false).bind fun (z10 : Bool) =>
      some (cond (z6 == z7) z10 false)))

noncomputable def law31_RolesLevels_L1b (z2 : (List T_roles_Pair)) (role_1 : Bytes) (z7 : (Int × Int)) : Option ((Int × Int) ⊕ Int) :=
  cond (decide (z7.2 < (z2.length : Int)))
    ((idx z2 z7.2).bind fun (z8 : T_roles_Pair) =>
    cond (z8.Low == role_1)
      ((idx z2 z7.2).bind fun (z9 : T_roles_Pair) =>
      (roles_Level z2 z9.High).bind fun (z10 : Int) =>
      some (.inl (max z7.1 (IntKind.i64.wrap (z10 + 1)), IntKind.i64.wrap (z7.2 + 1))))
      (some (.inl (z7.1, IntKind.i64.wrap (z7.2 + 1)))))
    (brk (some z7.1))
noncomputable def law31_RolesLevels_L1 (z2 : (List T_roles_Pair)) (role_1 : Bytes) (z7 : (Int × Int)) : Option Int := loopO (law31_RolesLevels_L1b z2 role_1) z7

noncomputable def law31_RolesLevels (l_0 : (List T_roles_Pair)) (role_1 : Bytes) : Option Bool :=
  (law31_alive ).bind fun (z1 : Bool) =>
  cond (!z1)
    (some false)
    ((law31_few l_0).bind fun (z2 : (List T_roles_Pair)) =>
    (law31_ring z2).bind fun (z3 : Bool) =>
    cond z3
      ((roles_Level z2 role_1).bind fun (z4 : Int) =>
      some (z4 == (-1)))
      ((law31_RolesLevels_L1 z2 role_1 (0, 0)).bind fun (z5 : Int) =>
      (roles_Level z2 role_1).bind fun (z6 : Int) =>
      some (z6 == z5)))

noncomputable def law31_without (l_0 : (List T_roles_Pair)) (a_1 : Int) : Option (List T_roles_Pair) :=
  (sub l_0 0 a_1).bind fun (z1 : (List T_roles_Pair)) =>
  (app 32 ([] : List T_roles_Pair) z1).bind fun (z2 : List T_roles_Pair) =>
  (sub l_0 (IntKind.i64.wrap (a_1 + 1)) (l_0.length)).bind fun (z4 : (List T_roles_Pair)) =>
  (app 32 z2 z4).bind fun (z5 : List T_roles_Pair) =>
  some z5

noncomputable def law31_RolesReduces_L1b (z2 : (List T_roles_Pair)) (z3 : (List T_roles_Pair)) (z8 : Int) : Option (Int ⊕ (Unit ⊕ Bool)) :=
  cond (decide (z8 < (z2.length : Int)))
    ((at? z3 z8).bind fun (z9 : Nat) =>
    (idx z2 z8).bind fun (z10 : T_roles_Pair) =>
    cond (!(T_roles_Pair_eqb (z3.getD z9 T_roles_Pair_zero) z10))
      (brk (brk (some false)))
      (some (.inl (IntKind.i64.wrap (z8 + 1)))))
    (brk (some (.inl ())))
noncomputable def law31_RolesReduces_L1 (z2 : (List T_roles_Pair)) (z3 : (List T_roles_Pair)) (z8 : Int) : Option (Unit ⊕ Bool) := loopO (law31_RolesReduces_L1b z2 z3) z8

noncomputable def law31_RolesReduces_L2b (z2 : (List T_roles_Pair)) (z3 : (List T_roles_Pair)) (z20 : Int) : Option (Int ⊕ (Unit ⊕ Bool)) :=
  cond (decide (z20 < (z2.length : Int)))
    ((idx z2 z20).bind fun (z21 : T_roles_Pair) =>
    (law31_reach z3 z21.Low).bind fun (z22 : (List Bytes)) =>
    (idx z2 z20).bind fun (z24 : T_roles_Pair) =>
    (plain_In z22 z24.High).bind fun (z25 : Bool) =>
    cond (!z25)
      (brk (brk (some false)))
      (some (.inl (IntKind.i64.wrap (z20 + 1)))))
    (brk (some (.inl ())))
noncomputable def law31_RolesReduces_L2 (z2 : (List T_roles_Pair)) (z3 : (List T_roles_Pair)) (z20 : Int) : Option (Unit ⊕ Bool) := loopO (law31_RolesReduces_L2b z2 z3) z20

noncomputable def law31_RolesReduces_L3b (z2 : (List T_roles_Pair)) (z3 : (List T_roles_Pair)) (z26 : Int) : Option (Int ⊕ (Unit ⊕ Bool)) :=
  cond (decide (z26 < (z3.length : Int)))
    ((idx z3 z26).bind fun (z27 : T_roles_Pair) =>
    (law31_without z3 z26).bind fun (z29 : (List T_roles_Pair)) =>
    (law31_reach z29 z27.Low).bind fun (z31 : (List Bytes)) =>
    (plain_In z31 z27.High).bind fun (z33 : Bool) =>
    (gd (true && (z33 == false)) (law31_reach z2 z27.Low) []).bind fun (z34 : (List Bytes)) =>
    (gd (true && (z33 == false)) (plain_In z34 z27.High) false).bind fun (z36 : Bool) =>
    cond (cond z33 true (!z36))
      (brk (brk (some false)))
      ((gd (true && ((decide (0 < z26)) == true)) (idx z3 (IntKind.i64.wrap (z26 - 1))) T_roles_Pair_zero).bind fun (z37 : T_roles_Pair) =>
      (gd ((true && ((decide (0 < z26)) == true)) && ((!(less z37.Low z27.Low || z37.Low == z27.Low)) == false)) (idx z3 (IntKind.i64.wrap (z26 - 1))) T_roles_Pair_zero).bind fun (z38 : T_roles_Pair) =>
      (gd (((true && ((decide (0 < z26)) == true)) && ((!(less z37.Low z27.Low || z37.Low == z27.Low)) == false)) && ((z38.Low == z27.Low) == true)) (idx z3 (IntKind.i64.wrap (z26 - 1))) T_roles_Pair_zero).bind fun (z39 : T_roles_Pair) =>
      cond (cond (decide (0 < z26)) (cond (!(less z37.Low z27.Low || z37.Low == z27.Low)) true (cond (z38.Low == z27.Low) (!(less z39.High z27.High)) false)) false)
        (brk (brk (some false)))
        (some (.inl (IntKind.i64.wrap (z26 + 1))))))
    (brk (some (.inl ())))
noncomputable def law31_RolesReduces_L3 (z2 : (List T_roles_Pair)) (z3 : (List T_roles_Pair)) (z26 : Int) : Option (Unit ⊕ Bool) := loopO (law31_RolesReduces_L3b z2 z3) z26

noncomputable def law31_RolesReduces (l_0 : (List T_roles_Pair)) (role_1 : Bytes) : Option Bool :=
  (law31_alive ).bind fun (z1 : Bool) =>
  cond (!z1)
    (some false)
    ((law31_few l_0).bind fun (z2 : (List T_roles_Pair)) =>
    (roles_Reduce z2).bind fun (z3 : (List T_roles_Pair)) =>
    (law31_ring z2).bind fun (z6 : Bool) =>
    cond z6
      (cond ((z3.length : Int) != (z2.length : Int))
        (some false)
        (both (law31_RolesReduces_L1 z2 z3 0) fun (z7 : Unit) =>
        some true))
      ((gd (true && ((decide ((z2.length : Int) < (z3.length : Int))) == false)) (law31_reach z3 role_1) []).bind fun (z11 : (List Bytes)) =>
      (gd (true && ((decide ((z2.length : Int) < (z3.length : Int))) == false)) (plain_Rising z11) []).bind fun (z13 : (List Bytes)) =>
      (gd (true && ((decide ((z2.length : Int) < (z3.length : Int))) == false)) (law31_reach z2 role_1) []).bind fun (z14 : (List Bytes)) =>
      (gd (true && ((decide ((z2.length : Int) < (z3.length : Int))) == false)) (plain_Rising z14) []).bind fun (z16 : (List Bytes)) =>
      (gd (true && ((decide ((z2.length : Int) < (z3.length : Int))) == false)) (plain_Texts z13 z16) false).bind fun (z17 : Bool) =>
      cond (cond (decide ((z2.length : Int) < (z3.length : Int))) true (!z17))
        (some false)
        (both (law31_RolesReduces_L3 z2 z3 0) fun (z18 : Unit) =>
        both (law31_RolesReduces_L2 z2 z3 0) fun (z19 : Unit) =>
        some true)))

end Go.Proofs.Ytdocdjknennfjaa.M
