/- The functions, as plain Lean: written by gen2.py. -/
import Derived.Test.YtlikbfnaihccmaaEng
namespace Go.Proofs.Ytlikbfnaihccmaa.M
open Go.Eng Go
set_option linter.unusedVariables false

structure T_law15_Op where
  Kind : Int
  At : Int
def T_law15_Op_tup (x : T_law15_Op) : Int × Int × Unit := (x.Kind, x.At, ())
def T_law15_Op_rep0 := (Rep.cons (Rep.int .i64) (Rep.cons (Rep.int .i64) Rep.nil0))
def T_law15_Op_rep : Rep T_law15_Op := T_law15_Op_rep0.iso T_law15_Op_tup
def T_law15_Op_zero : T_law15_Op := ⟨0, 0⟩
instance : Inhabited T_law15_Op := ⟨T_law15_Op_zero⟩

structure T_deque_Cell where
  At : Int
  N : Int
def T_deque_Cell_tup (x : T_deque_Cell) : Int × Int × Unit := (x.At, x.N, ())
def T_deque_Cell_rep0 := (Rep.cons (Rep.int .i64) (Rep.cons (Rep.int .i64) Rep.nil0))
def T_deque_Cell_rep : Rep T_deque_Cell := T_deque_Cell_rep0.iso T_deque_Cell_tup
def T_deque_Cell_zero : T_deque_Cell := ⟨0, 0⟩
instance : Inhabited T_deque_Cell := ⟨T_deque_Cell_zero⟩
def T_deque_Cell_eqb (x y : T_deque_Cell) : Bool := ((x.At == y.At) && ((x.N == y.N) && true))

structure T_deque_Deque where
  cells : (List T_deque_Cell)
  gone : Int
  sum : Int
def T_deque_Deque_tup (x : T_deque_Deque) : (List T_deque_Cell) × Int × Int × Unit := (x.cells, x.gone, x.sum, ())
def T_deque_Deque_rep0 := (Rep.cons ((T_deque_Cell_rep).slice) (Rep.cons (Rep.int .i64) (Rep.cons (Rep.int .i64) Rep.nil0)))
def T_deque_Deque_rep : Rep T_deque_Deque := T_deque_Deque_rep0.iso T_deque_Deque_tup
def T_deque_Deque_zero : T_deque_Deque := ⟨[], 0, 0⟩
instance : Inhabited T_deque_Deque := ⟨T_deque_Deque_zero⟩
def T_deque_Deque_tupo (x : T_deque_Deque) : Unit × Int × Int × Unit := ((), x.gone, x.sum, ())
def T_deque_Deque_repo0 (v0 : Value) := (Rep.cons ((Rep.isv v0)) (Rep.cons (Rep.int .i64) (Rep.cons (Rep.int .i64) Rep.nil0)))
def T_deque_Deque_repo (v0 : Value) : Rep T_deque_Deque := (T_deque_Deque_repo0 v0).iso T_deque_Deque_tupo

structure T_tally_Tally where
  hi : Int
  last : Int
  made : Bool
  was : T_deque_Deque
def T_tally_Tally_tup (x : T_tally_Tally) : Int × Int × Bool × T_deque_Deque × Unit := (x.hi, x.last, x.made, x.was, ())
def T_tally_Tally_rep0 := (Rep.cons (Rep.int .i64) (Rep.cons (Rep.int .i64) (Rep.cons (Rep.bool) (Rep.cons (T_deque_Deque_rep) Rep.nil0))))
def T_tally_Tally_rep : Rep T_tally_Tally := T_tally_Tally_rep0.iso T_tally_Tally_tup
def T_tally_Tally_zero : T_tally_Tally := ⟨0, 0, false, T_deque_Deque_zero⟩
instance : Inhabited T_tally_Tally := ⟨T_tally_Tally_zero⟩
def T_tally_Tally_tupo (x : T_tally_Tally) : Int × Int × Bool × T_deque_Deque × Unit := (x.hi, x.last, x.made, x.was, ())
def T_tally_Tally_repo0 (v0 : Value) := (Rep.cons (Rep.int .i64) (Rep.cons (Rep.int .i64) (Rep.cons (Rep.bool) (Rep.cons ((T_deque_Deque_repo v0)) Rep.nil0))))
def T_tally_Tally_repo (v0 : Value) : Rep T_tally_Tally := (T_tally_Tally_repo0 v0).iso T_tally_Tally_tupo

structure T_law17_Step where
  At : Int
  Is : Bool
def T_law17_Step_tup (x : T_law17_Step) : Int × Bool × Unit := (x.At, x.Is, ())
def T_law17_Step_rep0 := (Rep.cons (Rep.int .i64) (Rep.cons (Rep.bool) Rep.nil0))
def T_law17_Step_rep : Rep T_law17_Step := T_law17_Step_rep0.iso T_law17_Step_tup
def T_law17_Step_zero : T_law17_Step := ⟨0, false⟩
instance : Inhabited T_law17_Step := ⟨T_law17_Step_zero⟩

structure T_api_Expr where
  Kind : Int
  Name : Bytes
  N : Int
  Lo : Int
  Hi : Int
  Kids : (List T_api_Expr)
def T_api_Expr_tup (x : T_api_Expr) : Int × Bytes × Int × Int × Int × (List T_api_Expr) × Unit := (x.Kind, x.Name, x.N, x.Lo, x.Hi, x.Kids, ())
def T_api_Expr_rep0 (R : Rep T_api_Expr) := (Rep.cons (Rep.int .i64) (Rep.cons (Rep.str) (Rep.cons (Rep.int .i64) (Rep.cons (Rep.int .i64) (Rep.cons (Rep.int .i64) (Rep.cons ((R).slice) Rep.nil0))))))
def T_api_Expr_repF (R : Rep T_api_Expr) : Rep T_api_Expr := (T_api_Expr_rep0 R).iso T_api_Expr_tup
def T_api_Expr_rep : Rep T_api_Expr := Rep.fix T_api_Expr_repF 6 aggv (fun _ _ => rfl) (fun _ _ => rfl) (fun _ _ => rfl)
def T_api_Expr_zero : T_api_Expr := ⟨0, [], 0, 0, 0, []⟩
instance : Inhabited T_api_Expr := ⟨T_api_Expr_zero⟩

noncomputable def deque_Deque_in (d_0 : T_deque_Deque) : Option (Nat × Nat) :=
  (cut d_0.cells.length d_0.gone (d_0.cells.length)).bind fun (z1 : Nat × Nat) =>
  some (z1.1, z1.2)

noncomputable def deque_Deque_Last (d_0 : T_deque_Deque) : Option (T_deque_Cell × Bool) :=
  (deque_Deque_in d_0).bind fun (z2 : (Nat × Nat)) =>
  chk d_0.cells.length z2 <|
  cond (((z2.2 - z2.1 : Nat) : Int) == 0)
    (some ((⟨0, 0⟩ : T_deque_Cell), false))
    ((at? ((d_0.cells.drop z2.1).take (z2.2 - z2.1)) (IntKind.i64.wrap (((z2.2 - z2.1 : Nat) : Int) - 1))).bind fun (z4 : Nat) =>
    some ((d_0.cells.getD (z2.1 + z4) T_deque_Cell_zero), true))

noncomputable def deque_Deque_Push (d_0 : T_deque_Deque) (a_1 : Int) : Option (Bool × T_deque_Deque) :=
  (deque_Deque_Last d_0).bind fun (z1 : (T_deque_Cell × Bool)) =>
  cond (cond false true (cond z1.2 (decide (a_1 < z1.1.At)) false))
    (some (false, d_0))
    (cond (cond (!z1.2) true (decide (z1.1.At < a_1)))
      ((app 16 d_0.cells ([(⟨a_1, 1⟩ : T_deque_Cell)] : List T_deque_Cell)).bind fun (z4 : List T_deque_Cell) =>
      some (true, { ({ d_0 with sum := IntKind.i64.wrap (d_0.sum + 1) }) with cells := z4 }))
      (cond (decide (z1.1.N < 32768))
        ((at? d_0.cells (IntKind.i64.wrap ((d_0.cells.length : Int) - 1))).bind fun (z6 : Nat) =>
        (at? d_0.cells (IntKind.i64.wrap ((d_0.cells.length : Int) - 1))).bind fun (z7 : Nat) =>
        some (true, { ({ d_0 with sum := IntKind.i64.wrap (d_0.sum + 1) }) with cells := (d_0.cells.set z7 ({ (d_0.cells.getD z7 T_deque_Cell_zero) with N := IntKind.i64.wrap (((d_0.cells.getD z6 T_deque_Cell_zero).N) + 1) })) }))
        (some (true, d_0))))

noncomputable def deque_Deque_Len (d_0 : T_deque_Deque) : Option Int :=
  (deque_Deque_in d_0).bind fun (z1 : (Nat × Nat)) =>
  chk d_0.cells.length z1 <|
  some ((z1.2 - z1.1 : Nat) : Int)

noncomputable def deque_Deque_Sum (d_0 : T_deque_Deque) : Option Int :=
  some d_0.sum

noncomputable def law15_alive  : Option Bool :=
  (deque_Deque_Push ({ (⟨[], 0, 0⟩ : T_deque_Deque) with cells := ([] : List T_deque_Cell) }) 5).bind fun (z2 : (Bool × T_deque_Deque)) =>
  (gd (true && (z2.1 == true)) (deque_Deque_Push z2.2 5) (false, z2.2)).bind fun (z5 : (Bool × T_deque_Deque)) =>
  (gd (true && ((cond z2.1 z5.1 false) == true)) (deque_Deque_Push z5.2 4) (false, z5.2)).bind fun (z8 : (Bool × T_deque_Deque)) =>
  (gd (true && ((cond (cond z2.1 z5.1 false) (!z8.1) false) == true)) (deque_Deque_Len z8.2) 0).bind fun (z11 : Int) =>
  (gd (true && ((cond (cond (cond z2.1 z5.1 false) (!z8.1) false) (z11 == 1) false) == true)) (deque_Deque_Sum z8.2) 0).bind fun (z13 : Int) =>
  lt (cond (cond (cond (cond z2.1 z5.1 false) (!z8.1) false) (z11 == 1) false) (z13 == 2) false) fun (z15 : Bool) =>
  some z15

noncomputable def law15_few (l_0 : (List T_law15_Op)) : Option (List T_law15_Op) :=
  cond (decide (80 < (l_0.length : Int)))
    ((sub l_0 0 80).bind fun (z1 : (List T_law15_Op)) =>
    some z1)
    (some l_0)

noncomputable def deque_Deque_First (d_0 : T_deque_Deque) : Option (T_deque_Cell × Bool) :=
  (deque_Deque_in d_0).bind fun (z2 : (Nat × Nat)) =>
  chk d_0.cells.length z2 <|
  cond (((z2.2 - z2.1 : Nat) : Int) == 0)
    (some ((⟨0, 0⟩ : T_deque_Cell), false))
    ((at? ((d_0.cells.drop z2.1).take (z2.2 - z2.1)) 0).bind fun (z4 : Nat) =>
    some ((d_0.cells.getD (z2.1 + z4) T_deque_Cell_zero), true))

noncomputable def slices_Clone_deque_Cell_deque_Cell (s_0 : (List T_deque_Cell)) : Option (List T_deque_Cell) :=
  alt s_0
    (some [])
    ((app 16 ([] : List T_deque_Cell) s_0).bind fun (z2 : List T_deque_Cell) =>
    some z2)

noncomputable def deque_Deque_All (d_0 : T_deque_Deque) : Option (List T_deque_Cell) :=
  (deque_Deque_in d_0).bind fun (z1 : (Nat × Nat)) =>
  chk d_0.cells.length z1 <|
  (slices_Clone_deque_Cell_deque_Cell ((d_0.cells.drop z1.1).take (z1.2 - z1.1))).bind fun (z3 : (List T_deque_Cell)) =>
  some z3

noncomputable def law15_cells_L1b (a_0 : (List T_deque_Cell)) (b_1 : (List T_deque_Cell)) (z2 : Int) : Option (Int ⊕ (Unit ⊕ Bool)) :=
  cond (decide (z2 < (a_0.length : Int)))
    ((idx a_0 z2).bind fun (z3 : T_deque_Cell) =>
    (idx b_1 z2).bind fun (z4 : T_deque_Cell) =>
    cond (!(T_deque_Cell_eqb z3 z4))
      (brk (brk (some false)))
      (some (.inl (IntKind.i64.wrap (z2 + 1)))))
    (brk (some (.inl ())))
noncomputable def law15_cells_L1 (a_0 : (List T_deque_Cell)) (b_1 : (List T_deque_Cell)) (z2 : Int) : Option (Unit ⊕ Bool) := loopO (law15_cells_L1b a_0 b_1) z2

noncomputable def law15_cells (a_0 : (List T_deque_Cell)) (b_1 : (List T_deque_Cell)) : Option Bool :=
  cond ((a_0.length : Int) != (b_1.length : Int))
    (some false)
    (both (law15_cells_L1 a_0 b_1 0) fun (z1 : Unit) =>
    some true)

noncomputable def law15_like_L1b (m_1 : (List T_deque_Cell)) (z19 : (Int × Int)) : Option ((Int × Int) ⊕ Int) :=
  cond (decide (z19.2 < (m_1.length : Int)))
    ((idx m_1 z19.2).bind fun (z20 : T_deque_Cell) =>
    some (.inl (IntKind.i64.wrap (z19.1 + z20.N), IntKind.i64.wrap (z19.2 + 1))))
    (brk (some z19.1))
noncomputable def law15_like_L1 (m_1 : (List T_deque_Cell)) (z19 : (Int × Int)) : Option Int := loopO (law15_like_L1b m_1) z19

noncomputable def law15_like (d_0 : T_deque_Deque) (m_1 : (List T_deque_Cell)) : Option Bool :=
  (law15_like_L1 m_1 (0, 0)).bind fun (z1 : Int) =>
  (deque_Deque_First d_0).bind fun (z2 : (T_deque_Cell × Bool)) =>
  (deque_Deque_Last d_0).bind fun (z5 : (T_deque_Cell × Bool)) =>
  (deque_Deque_All d_0).bind fun (z8 : (List T_deque_Cell)) =>
  (law15_cells z8 m_1).bind fun (z11 : Bool) =>
  (gd (true && ((!z11) == false)) (deque_Deque_Len d_0) 0).bind fun (z12 : Int) =>
  (gd (true && ((cond (!z11) true (z12 != (m_1.length : Int))) == false)) (deque_Deque_Sum d_0) 0).bind fun (z14 : Int) =>
  cond (cond (cond (cond (cond (!z11) true (z12 != (m_1.length : Int))) true (z14 != z1)) true (z2.2 != (decide (0 < (m_1.length : Int))))) true (z5.2 != z2.2))
    (some false)
    (cond ((m_1.length : Int) == 0)
      (lt (cond (T_deque_Cell_eqb z2.1 (⟨0, 0⟩ : T_deque_Cell)) (T_deque_Cell_eqb z5.1 (⟨0, 0⟩ : T_deque_Cell)) false) fun (z16 : Bool) =>
      some z16)
      ((idx m_1 0).bind fun (z17 : T_deque_Cell) =>
      (gd (true && ((T_deque_Cell_eqb z2.1 z17) == true)) (idx m_1 (IntKind.i64.wrap ((m_1.length : Int) - 1))) T_deque_Cell_zero).bind fun (z18 : T_deque_Cell) =>
      some (cond (T_deque_Cell_eqb z2.1 z17) (T_deque_Cell_eqb z5.1 z18) false)))

noncomputable def deque_Deque_shrink (d_0 : T_deque_Deque) : Option T_deque_Deque :=
  cond (decide ((d_0.cells.length : Int) ≤ (IntKind.i64.wrap (2 * d_0.gone))))
    ((cut d_0.cells.length d_0.gone (d_0.cells.length)).bind fun (z2 : Nat × Nat) =>
    (slices_Clone_deque_Cell_deque_Cell ((d_0.cells.drop z2.1).take (z2.2 - z2.1))).bind fun (z3 : (List T_deque_Cell)) =>
    some ({ ({ d_0 with gone := 0 }) with cells := z3 }))
    (some d_0)

noncomputable def deque_Deque_Prune_L1b (z1 : (Nat × Nat)) (d_0 : T_deque_Deque) (a_1 : Int) (z7 : (Int × Int × T_deque_Deque)) : Option ((Int × Int × T_deque_Deque) ⊕ (Int × T_deque_Deque)) :=
  cond (decide (z7.2.1 < ((z1.2 - z1.1 : Nat) : Int)))
    ((at? ((d_0.cells.drop z1.1).take (z1.2 - z1.1)) z7.2.1).bind fun (z8 : Nat) =>
    cond (decide (a_1 ≤ ((d_0.cells.getD (z1.1 + z8) T_deque_Cell_zero).At)))
      (brk (some (z7.1, z7.2.2)))
      (some (.inl (IntKind.i64.wrap (z7.1 + 1), IntKind.i64.wrap (z7.2.1 + 1), { z7.2.2 with sum := IntKind.i64.wrap (z7.2.2.sum - ((d_0.cells.getD (z1.1 + z8) T_deque_Cell_zero).N)) }))))
    (brk (some (z7.1, z7.2.2)))
noncomputable def deque_Deque_Prune_L1 (z1 : (Nat × Nat)) (d_0 : T_deque_Deque) (a_1 : Int) (z7 : (Int × Int × T_deque_Deque)) : Option (Int × T_deque_Deque) := loopO (deque_Deque_Prune_L1b z1 d_0 a_1) z7

noncomputable def deque_Deque_Prune (d_0 : T_deque_Deque) (a_1 : Int) : Option (Int × T_deque_Deque) :=
  (deque_Deque_in d_0).bind fun (z1 : (Nat × Nat)) =>
  chk d_0.cells.length z1 <|
  (deque_Deque_Prune_L1 z1 d_0 a_1 (0, 0, d_0)).bind fun (z3 : (Int × T_deque_Deque)) =>
  cond (decide (0 < z3.1))
    ((deque_Deque_shrink ({ ({ z3.2 with gone := IntKind.i64.wrap (z3.2.gone + z3.1) }) with cells := d_0.cells })).bind fun (z4 : T_deque_Deque) =>
    some (z3.1, z4))
    (some (z3.1, { z3.2 with cells := d_0.cells }))

noncomputable def deque_Deque_Clear (d_0 : T_deque_Deque) : Option T_deque_Deque :=
  some ({ (⟨[], 0, 0⟩ : T_deque_Deque) with cells := ([] : List T_deque_Cell) })

noncomputable def law15_step_L1b (m_1 : (List T_deque_Cell)) (x_2 : T_law15_Op) (z18 : (Int × (List T_deque_Cell))) : Option ((Int × (List T_deque_Cell)) ⊕ (List T_deque_Cell)) :=
  cond (decide (z18.1 < (m_1.length : Int)))
    ((idx m_1 z18.1).bind fun (z19 : T_deque_Cell) =>
    cond (decide (x_2.At ≤ z19.At))
      ((idx m_1 z18.1).bind fun (z20 : T_deque_Cell) =>
      (app 16 z18.2 ([z20] : List T_deque_Cell)).bind fun (z21 : List T_deque_Cell) =>
      some (.inl (IntKind.i64.wrap (z18.1 + 1), z21)))
      (some (.inl (IntKind.i64.wrap (z18.1 + 1), z18.2))))
    (brk (some z18.2))
noncomputable def law15_step_L1 (m_1 : (List T_deque_Cell)) (x_2 : T_law15_Op) (z18 : (Int × (List T_deque_Cell))) : Option (List T_deque_Cell) := loopO (law15_step_L1b m_1 x_2) z18

noncomputable def law15_step (d_0 : T_deque_Deque) (m_1 : (List T_deque_Cell)) (x_2 : T_law15_Op) : Option ((List T_deque_Cell) × Bool × T_deque_Deque) :=
  cond (x_2.Kind == 1)
    ((deque_Deque_Push d_0 x_2.At).bind fun (z2 : (Bool × T_deque_Deque)) =>
    (gd (true && ((decide (0 < (m_1.length : Int))) == true)) (idx m_1 (IntKind.i64.wrap ((m_1.length : Int) - 1))) T_deque_Cell_zero).bind fun (z5 : T_deque_Cell) =>
    cond (cond (decide (0 < (m_1.length : Int))) (decide (x_2.At < z5.At)) false)
      (some (m_1, !z2.1, z2.2))
      ((app 16 ([] : List T_deque_Cell) m_1).bind fun (z6 : List T_deque_Cell) =>
      (gd (true && ((decide (0 < (m_1.length : Int))) == true)) (idx m_1 (IntKind.i64.wrap ((m_1.length : Int) - 1))) T_deque_Cell_zero).bind fun (z8 : T_deque_Cell) =>
      cond (cond (decide (0 < (m_1.length : Int))) (x_2.At == z8.At) false)
        ((at? z6 (IntKind.i64.wrap ((m_1.length : Int) - 1))).bind fun (z9 : Nat) =>
        (at? z6 (IntKind.i64.wrap ((m_1.length : Int) - 1))).bind fun (z10 : Nat) =>
        some ((z6.set z10 ({ (z6.getD z10 T_deque_Cell_zero) with N := IntKind.i64.wrap (((z6.getD z9 T_deque_Cell_zero).N) + 1) })), z2.1, z2.2))
        ((app 16 z6 ([(⟨x_2.At, 1⟩ : T_deque_Cell)] : List T_deque_Cell)).bind fun (z11 : List T_deque_Cell) =>
        some (z11, z2.1, z2.2))))
    (cond (x_2.Kind == 2)
      ((law15_step_L1 m_1 x_2 (0, ([] : (List T_deque_Cell)))).bind fun (z13 : (List T_deque_Cell)) =>
      (deque_Deque_Prune d_0 x_2.At).bind fun (z14 : (Int × T_deque_Deque)) =>
      lt (z14.1 == (IntKind.i64.wrap ((m_1.length : Int) - (z13.length : Int)))) fun (z17 : Bool) =>
      some (z13, z17, z14.2))
      (cond (x_2.Kind == 3)
        ((deque_Deque_Clear d_0).bind fun (z23 : T_deque_Deque) =>
        some (([] : (List T_deque_Cell)), true, z23))
        (some (m_1, true, d_0))))

noncomputable def law15_run_L1b (l_2 : (List T_law15_Op)) (z4 : ((List T_deque_Cell) × Bool × Int × T_deque_Deque)) : Option (((List T_deque_Cell) × Bool × Int × T_deque_Deque) ⊕ ((List T_deque_Cell) × Bool × T_deque_Deque)) :=
  cond (cond (decide (z4.2.2.1 < (l_2.length : Int))) z4.2.1 false)
    ((idx l_2 z4.2.2.1).bind fun (z5 : T_law15_Op) =>
    (law15_step z4.2.2.2 z4.1 z5).bind fun (z6 : ((List T_deque_Cell) × Bool × T_deque_Deque)) =>
    (gd (true && (z6.2.1 == true)) (law15_like z6.2.2 z6.1) false).bind fun (z9 : Bool) =>
    some (.inl (z6.1, cond z6.2.1 z9 false, IntKind.i64.wrap (z4.2.2.1 + 1), z6.2.2)))
    (brk (some (z4.1, z4.2.1, z4.2.2.2)))
noncomputable def law15_run_L1 (l_2 : (List T_law15_Op)) (z4 : ((List T_deque_Cell) × Bool × Int × T_deque_Deque)) : Option ((List T_deque_Cell) × Bool × T_deque_Deque) := loopO (law15_run_L1b l_2) z4

noncomputable def law15_run (d_0 : T_deque_Deque) (m_1 : (List T_deque_Cell)) (l_2 : (List T_law15_Op)) : Option ((List T_deque_Cell) × Bool × T_deque_Deque) :=
  (law15_like d_0 m_1).bind fun (z1 : Bool) =>
  (law15_run_L1 l_2 (m_1, z1, 0, d_0)).bind fun (z3 : ((List T_deque_Cell) × Bool × T_deque_Deque)) =>
  some (z3.1, z3.2.1, z3.2.2)

noncomputable def law15_DequeRuns (l_0 : (List T_law15_Op)) : Option Bool :=
  (law15_alive ).bind fun (z1 : Bool) =>
  cond (!z1)
    (some false)
    ((law15_few l_0).bind fun (z3 : (List T_law15_Op)) =>
    (law15_run ({ (⟨[], 0, 0⟩ : T_deque_Deque) with cells := ([] : List T_deque_Cell) }) ([] : (List T_deque_Cell)) z3).bind fun (z4 : ((List T_deque_Cell) × Bool × T_deque_Deque)) =>
    some z4.2.1)

noncomputable def law15_DequeCounts_L1b (a_0 : Int) (n_1 : Int) (z6 : (Int × T_deque_Deque)) : Option ((Int × T_deque_Deque) ⊕ (T_deque_Deque ⊕ Bool)) :=
  cond (decide (z6.1 < (min (max n_1 1) 33000)))
    ((deque_Deque_Push z6.2 a_0).bind fun (z7 : (Bool × T_deque_Deque)) =>
    cond (!z7.1)
      (brk (brk (some false)))
      (some (.inl (IntKind.i64.wrap (z6.1 + 1), z7.2))))
    (brk (some (.inl z6.2)))
noncomputable def law15_DequeCounts_L1 (a_0 : Int) (n_1 : Int) (z6 : (Int × T_deque_Deque)) : Option (T_deque_Deque ⊕ Bool) := loopO (law15_DequeCounts_L1b a_0 n_1) z6

noncomputable def law15_DequeCounts (a_0 : Int) (n_1 : Int) : Option Bool :=
  (law15_alive ).bind fun (z1 : Bool) =>
  cond (!z1)
    (some false)
    (both (law15_DequeCounts_L1 a_0 n_1 (0, { (⟨[], 0, 0⟩ : T_deque_Deque) with cells := ([] : List T_deque_Cell) })) fun (z3 : T_deque_Deque) =>
    (law15_like z3 ([(⟨a_0, min (min (max n_1 1) 33000) 32768⟩ : T_deque_Cell)] : List T_deque_Cell)).bind fun (z4 : Bool) =>
    some z4)

noncomputable def deque_Deque_Clone (d_0 : T_deque_Deque) : Option T_deque_Deque :=
  (deque_Deque_All d_0).bind fun (z2 : (List T_deque_Cell)) =>
  some (⟨z2, 0, d_0.sum⟩ : T_deque_Deque)

noncomputable def law15_DequeClones (a_0 : (List T_law15_Op)) (b_1 : (List T_law15_Op)) (c_2 : (List T_law15_Op)) : Option Bool :=
  (law15_alive ).bind fun (z1 : Bool) =>
  cond (!z1)
    (some false)
    ((law15_few a_0).bind fun (z3 : (List T_law15_Op)) =>
    (law15_run ({ (⟨[], 0, 0⟩ : T_deque_Deque) with cells := ([] : List T_deque_Cell) }) ([] : (List T_deque_Cell)) z3).bind fun (z4 : ((List T_deque_Cell) × Bool × T_deque_Deque)) =>
    (deque_Deque_Clone z4.2.2).bind fun (z7 : T_deque_Deque) =>
    (law15_few b_1).bind fun (z12 : (List T_law15_Op)) =>
    (law15_run z4.2.2 z4.1 z12).bind fun (z13 : ((List T_deque_Cell) × Bool × T_deque_Deque)) =>
    (law15_few c_2).bind fun (z16 : (List T_law15_Op)) =>
    (law15_run z7 z4.1 z16).bind fun (z17 : ((List T_deque_Cell) × Bool × T_deque_Deque)) =>
    (gd (true && ((cond (cond z4.2.1 z13.2.1 false) z17.2.1 false) == true)) (law15_like z13.2.2 z13.1) false).bind fun (z20 : Bool) =>
    (gd (true && ((cond (cond (cond z4.2.1 z13.2.1 false) z17.2.1 false) z20 false) == true)) (law15_like z17.2.2 z17.1) false).bind fun (z22 : Bool) =>
    lt (cond (cond (cond (cond z4.2.1 z13.2.1 false) z17.2.1 false) z20 false) z22 false) fun (z24 : Bool) =>
    some z24)

noncomputable def tally_New (hi_0 : Int) : Option T_tally_Tally :=
  some ({ (⟨max hi_0 0, 0, true, T_deque_Deque_zero⟩ : T_tally_Tally) with was := { T_deque_Deque_zero with cells := ([] : List T_deque_Cell) } })

noncomputable def tally_Tally_Step (t_0 : T_tally_Tally) (a_1 : Int) (is_2 : Bool) : Option (Int × T_tally_Tally) :=
  cond (cond false true (!t_0.made))
    (some (0, t_0))
    ((deque_Deque_Prune t_0.was (IntKind.i64.wrap ((max t_0.last a_1) - t_0.hi))).bind fun (z2 : (Int × T_deque_Deque)) =>
    cond is_2
      ((deque_Deque_Push z2.2 (max t_0.last a_1)).bind fun (z5 : (Bool × T_deque_Deque)) =>
      (deque_Deque_Sum z5.2).bind fun (z7 : Int) =>
      some (z7, { ({ t_0 with last := max t_0.last a_1 }) with was := z5.2 }))
      ((deque_Deque_Sum z2.2).bind fun (z9 : Int) =>
      some (z9, { ({ t_0 with last := max t_0.last a_1 }) with was := z2.2 })))

noncomputable def tally_Tally_Cells (t_0 : T_tally_Tally) : Option Int :=
  (deque_Deque_Len t_0.was).bind fun (z1 : Int) =>
  some z1

noncomputable def law17_alive  : Option Bool :=
  (tally_New 5).bind fun (z1 : T_tally_Tally) =>
  (tally_Tally_Step z1 0 true).bind fun (z6 : (Int × T_tally_Tally)) =>
  (gd (true && ((z6.1 == 1) == true)) (tally_Tally_Step z6.2 5 true) (0, z6.2)).bind fun (z9 : (Int × T_tally_Tally)) =>
  (gd (true && ((cond (z6.1 == 1) (z9.1 == 2) false) == true)) (tally_Tally_Step z9.2 6 true) (0, z9.2)).bind fun (z12 : (Int × T_tally_Tally)) =>
  (gd (true && ((cond (cond (z6.1 == 1) (z9.1 == 2) false) (z12.1 == 2) false) == true)) (tally_Tally_Cells z12.2) 0).bind fun (z15 : Int) =>
  lt (cond (cond (cond (z6.1 == 1) (z9.1 == 2) false) (z12.1 == 2) false) (z15 == 2) false) fun (z17 : Bool) =>
  some z17

noncomputable def law17_TallyMost_L1b (n_0 : Int) (a_1 : Int) (z16 : (Int × T_tally_Tally)) : Option ((Int × T_tally_Tally) ⊕ (T_tally_Tally ⊕ Bool)) :=
  cond (decide (z16.1 < (min (max n_0 1) 33000)))
    ((tally_Tally_Step z16.2 (max a_1 0) true).bind fun (z17 : (Int × T_tally_Tally)) =>
    cond (z17.1 != (min (IntKind.i64.wrap (z16.1 + 1)) 32768))
      (brk (brk (some false)))
      (some (.inl (IntKind.i64.wrap (z16.1 + 1), z17.2))))
    (brk (some (.inl z16.2)))
noncomputable def law17_TallyMost_L1 (n_0 : Int) (a_1 : Int) (z16 : (Int × T_tally_Tally)) : Option (T_tally_Tally ⊕ Bool) := loopO (law17_TallyMost_L1b n_0 a_1) z16

noncomputable def law17_TallyMost (n_0 : Int) (a_1 : Int) : Option Bool :=
  (law17_alive ).bind fun (z1 : Bool) =>
  cond (!z1)
    (some false)
    ((tally_New 9).bind fun (z2 : T_tally_Tally) =>
    both (law17_TallyMost_L1 n_0 a_1 (0, z2)) fun (z7 : T_tally_Tally) =>
    cond ((max a_1 0) == 9223372036854775807)
      ((tally_Tally_Cells z7).bind fun (z8 : Int) =>
      some (z8 == 1))
      ((tally_Tally_Step z7 (IntKind.i64.wrap ((max a_1 0) + 1)) true).bind fun (z10 : (Int × T_tally_Tally)) =>
      (gd (true && ((z10.1 == (IntKind.i64.wrap ((min (min (max n_0 1) 33000) 32768) + 1))) == true)) (tally_Tally_Cells z10.2) 0).bind fun (z13 : Int) =>
      lt (cond (z10.1 == (IntKind.i64.wrap ((min (min (max n_0 1) 33000) 32768) + 1))) (z13 == 2) false) fun (z15 : Bool) =>
      some z15))

noncomputable def law17_few (l_0 : (List T_law17_Step)) : Option (List T_law17_Step) :=
  cond (decide (60 < (l_0.length : Int)))
    ((sub l_0 0 60).bind fun (z1 : (List T_law17_Step)) =>
    some z1)
    (some l_0)

noncomputable def law17_told_L1b (z1 : (Int × (List Int))) (l_0 : (List T_law17_Step)) (i_1 : Int) (hi_2 : Int) (z3 : (Int × Int × Int × Int)) : Option ((Int × Int × Int × Int) ⊕ (Int × Int)) :=
  cond (decide (z3.2.2.2 ≤ i_1))
    ((idx l_0 z3.2.2.2).bind fun (z4 : T_law17_Step) =>
    (gd (true && ((!z4.Is) == false)) (at? z1.2 z3.2.2.2) 0).bind fun (z5 : Nat) =>
    cond (cond (!z4.Is) true (decide (hi_2 < (IntKind.i64.wrap (z1.1 - (z1.2.getD z5 0))))))
      (some (.inl (z3.1, z3.2.1, z3.2.2.1, IntKind.i64.wrap (z3.2.2.2 + 1))))
      ((at? z1.2 z3.2.2.2).bind fun (z6 : Nat) =>
      cond ((z1.2.getD z6 0) != z3.2.2.1)
        ((at? z1.2 z3.2.2.2).bind fun (z7 : Nat) =>
        some (.inl (IntKind.i64.wrap (z3.1 + 1), IntKind.i64.wrap (z3.2.1 + 1), (z1.2.getD z7 0), IntKind.i64.wrap (z3.2.2.2 + 1))))
        (some (.inl (IntKind.i64.wrap (z3.1 + 1), z3.2.1, z3.2.2.1, IntKind.i64.wrap (z3.2.2.2 + 1))))))
    (brk (some (z3.1, z3.2.1)))
noncomputable def law17_told_L1 (z1 : (Int × (List Int))) (l_0 : (List T_law17_Step)) (i_1 : Int) (hi_2 : Int) (z3 : (Int × Int × Int × Int)) : Option (Int × Int) := loopO (law17_told_L1b z1 l_0 i_1 hi_2) z3

noncomputable def law17_told_L2b (l_0 : (List T_law17_Step)) (i_1 : Int) (z8 : (Int × Int × (List Int))) : Option ((Int × Int × (List Int)) ⊕ (Int × (List Int))) :=
  cond (decide (z8.2.1 ≤ i_1))
    ((idx l_0 z8.2.1).bind fun (z9 : T_law17_Step) =>
    (app 8 z8.2.2 ([max z8.1 z9.At] : List Int)).bind fun (z10 : List Int) =>
    some (.inl (max z8.1 z9.At, IntKind.i64.wrap (z8.2.1 + 1), z10)))
    (brk (some (z8.1, z8.2.2)))
noncomputable def law17_told_L2 (l_0 : (List T_law17_Step)) (i_1 : Int) (z8 : (Int × Int × (List Int))) : Option (Int × (List Int)) := loopO (law17_told_L2b l_0 i_1) z8

noncomputable def law17_told (l_0 : (List T_law17_Step)) (i_1 : Int) (hi_2 : Int) : Option (Int × Int) :=
  (law17_told_L2 l_0 i_1 (0, 0, ([] : (List Int)))).bind fun (z1 : (Int × (List Int))) =>
  (law17_told_L1 z1 l_0 i_1 hi_2 (0, 0, (-1), 0)).bind fun (z2 : (Int × Int)) =>
  some (z2.1, z2.2)

noncomputable def law17_TallyTells_L1b (z2 : (List T_law17_Step)) (hi_0 : Int) (z12 : (Int × T_tally_Tally)) : Option ((Int × T_tally_Tally) ⊕ (T_tally_Tally ⊕ Bool)) :=
  cond (decide (z12.1 < (z2.length : Int)))
    ((law17_told z2 z12.1 (max hi_0 0)).bind fun (z13 : (Int × Int)) =>
    (idx z2 z12.1).bind fun (z15 : T_law17_Step) =>
    (idx z2 z12.1).bind fun (z16 : T_law17_Step) =>
    (tally_Tally_Step z12.2 z15.At z16.Is).bind fun (z17 : (Int × T_tally_Tally)) =>
    (gd (true && ((z17.1 != z13.1) == false)) (tally_Tally_Cells z17.2) 0).bind fun (z19 : Int) =>
    cond (cond (z17.1 != z13.1) true (z19 != z13.2))
      (brk (brk (some false)))
      (some (.inl (IntKind.i64.wrap (z12.1 + 1), z17.2))))
    (brk (some (.inl z12.2)))
noncomputable def law17_TallyTells_L1 (z2 : (List T_law17_Step)) (hi_0 : Int) (z12 : (Int × T_tally_Tally)) : Option (T_tally_Tally ⊕ Bool) := loopO (law17_TallyTells_L1b z2 hi_0) z12

noncomputable def law17_TallyTells (hi_0 : Int) (l_1 : (List T_law17_Step)) : Option Bool :=
  (law17_alive ).bind fun (z1 : Bool) =>
  cond (!z1)
    (some false)
    ((law17_few l_1).bind fun (z2 : (List T_law17_Step)) =>
    (tally_New hi_0).bind fun (z3 : T_tally_Tally) =>
    both (law17_TallyTells_L1 z2 hi_0 (0, z3)) fun (z8 : T_tally_Tally) =>
    (gd (true && ((decide (0 < (z2.length : Int))) == false)) (tally_Tally_Cells z8) 0).bind fun (z9 : Int) =>
    lt (cond (decide (0 < (z2.length : Int))) true (z9 == 0)) fun (z11 : Bool) =>
    some z11)

noncomputable def bound_Cells_1_v0 (a_0 : T_api_Expr) (a_1 : Int) : Option Int :=
  some (IntKind.i64.wrap (a_1 + 1))

noncomputable def bound_each_v0_L1b (rec_bound_each_v0 : T_api_Expr → Int → Option Int) (e_0 : T_api_Expr) (z4 : (Int × Int)) : Option ((Int × Int) ⊕ Int) :=
  cond (decide (z4.1 < (e_0.Kids.length : Int)))
    ((idx e_0.Kids z4.1).bind fun (z5 : T_api_Expr) =>
    (rec_bound_each_v0 z5 z4.2).bind fun (z7 : Int) =>
    some (.inl (IntKind.i64.wrap (z4.1 + 1), z7)))
    (brk (some z4.2))
noncomputable def bound_each_v0_L1 (rec_bound_each_v0 : T_api_Expr → Int → Option Int) (e_0 : T_api_Expr) (z4 : (Int × Int)) : Option Int := loopO (bound_each_v0_L1b rec_bound_each_v0 e_0) z4

noncomputable def bound_each_v0_rec (fuel : Nat) (rec_bound_each_v0 : T_api_Expr → Int → Option Int) (e_0 : T_api_Expr) (c_1_0 : Int) : Option Int :=
  both (cond (e_0.Kind == 4)
    (brk (some c_1_0))
    (cond (e_0.Kind == 22)
      (cond (e_0.Kind == 22)
        ((bound_Cells_1_v0 e_0 c_1_0).bind fun (z9 : Int) =>
        some (.inl z9))
        (some (.inl c_1_0)))
      (cond (e_0.Kind == 23)
        (cond (e_0.Kind == 23)
          ((bound_Cells_1_v0 e_0 c_1_0).bind fun (z11 : Int) =>
          some (.inl z11))
          (some (.inl c_1_0)))
        (cond (e_0.Kind == 24)
          (cond (e_0.Kind == 24)
            ((bound_Cells_1_v0 e_0 c_1_0).bind fun (z13 : Int) =>
            some (.inl z13))
            (some (.inl c_1_0)))
          (cond (e_0.Kind == 13)
            (cond (e_0.Kind == 13)
              ((bound_Cells_1_v0 e_0 c_1_0).bind fun (z15 : Int) =>
              some (.inl z15))
              (some (.inl c_1_0)))
            (cond (e_0.Kind == 25)
              ((bound_Cells_1_v0 e_0 c_1_0).bind fun (z17 : Int) =>
              some (.inl z17))
              (some (.inl c_1_0)))))))) fun (z2 : Int) =>
  (bound_each_v0_L1 rec_bound_each_v0 e_0 (0, z2)).bind fun (z3 : Int) =>
  some z3

noncomputable def bound_each_v0 (N : Nat) : Nat → T_api_Expr → Int → Option Int
  | 0 => fun _ _ => none
  | n + 1 => bound_each_v0_rec N (bound_each_v0 N n)

noncomputable def bound_Cells (fuel : Nat) (e_0 : T_api_Expr) : Option Int :=
  (bound_each_v0 fuel fuel e_0 0).bind fun (z3 : Int) =>
  some z3

noncomputable def bound_Longest_1_v0 (k_0 : T_api_Expr) (a_1 : Int) : Option Int :=
  some (max a_1 k_0.Hi)

noncomputable def bound_each_v1_L1b (rec_bound_each_v1 : T_api_Expr → Int → Option Int) (e_0 : T_api_Expr) (z4 : (Int × Int)) : Option ((Int × Int) ⊕ Int) :=
  cond (decide (z4.1 < (e_0.Kids.length : Int)))
    ((idx e_0.Kids z4.1).bind fun (z5 : T_api_Expr) =>
    (rec_bound_each_v1 z5 z4.2).bind fun (z7 : Int) =>
    some (.inl (IntKind.i64.wrap (z4.1 + 1), z7)))
    (brk (some z4.2))
noncomputable def bound_each_v1_L1 (rec_bound_each_v1 : T_api_Expr → Int → Option Int) (e_0 : T_api_Expr) (z4 : (Int × Int)) : Option Int := loopO (bound_each_v1_L1b rec_bound_each_v1 e_0) z4

noncomputable def bound_each_v1_rec (fuel : Nat) (rec_bound_each_v1 : T_api_Expr → Int → Option Int) (e_0 : T_api_Expr) (c_1_0 : Int) : Option Int :=
  both (cond (e_0.Kind == 4)
    (brk (some c_1_0))
    (cond (e_0.Kind == 22)
      (cond (e_0.Kind == 22)
        ((bound_Longest_1_v0 e_0 c_1_0).bind fun (z9 : Int) =>
        some (.inl z9))
        (some (.inl c_1_0)))
      (cond (e_0.Kind == 23)
        (cond (e_0.Kind == 23)
          ((bound_Longest_1_v0 e_0 c_1_0).bind fun (z11 : Int) =>
          some (.inl z11))
          (some (.inl c_1_0)))
        (cond (e_0.Kind == 24)
          (cond (e_0.Kind == 24)
            ((bound_Longest_1_v0 e_0 c_1_0).bind fun (z13 : Int) =>
            some (.inl z13))
            (some (.inl c_1_0)))
          (cond (e_0.Kind == 13)
            (cond (e_0.Kind == 13)
              ((bound_Longest_1_v0 e_0 c_1_0).bind fun (z15 : Int) =>
              some (.inl z15))
              (some (.inl c_1_0)))
            (cond (e_0.Kind == 25)
              ((bound_Longest_1_v0 e_0 c_1_0).bind fun (z17 : Int) =>
              some (.inl z17))
              (some (.inl c_1_0)))))))) fun (z2 : Int) =>
  (bound_each_v1_L1 rec_bound_each_v1 e_0 (0, z2)).bind fun (z3 : Int) =>
  some z3

noncomputable def bound_each_v1 (N : Nat) : Nat → T_api_Expr → Int → Option Int
  | 0 => fun _ _ => none
  | n + 1 => bound_each_v1_rec N (bound_each_v1 N n)

noncomputable def bound_Longest (fuel : Nat) (e_0 : T_api_Expr) : Option Int :=
  (bound_each_v1 fuel fuel e_0 0).bind fun (z3 : Int) =>
  some z3

noncomputable def bound_Most (fuel : Nat) (e_0 : T_api_Expr) (times_1 : Int) : Option Int :=
  (bound_Cells fuel e_0).bind fun (z2 : Int) =>
  lt (IntKind.i64.wrap (z2 * (IntKind.i64.wrap ((min (max times_1 0) 32768) + 1)))) fun (z3 : Int) =>
  some z3

noncomputable def law11_alive (fuel : Nat)  : Option Bool :=
  lt (⟨22, [], 0, 0, 5, ([(⟨25, [], 0, 0, 0, ([(⟨21, ([97] : Bytes), 0, 0, 0, []⟩ : T_api_Expr)] : List T_api_Expr)⟩ : T_api_Expr)] : List T_api_Expr)⟩ : T_api_Expr) fun (z2 : T_api_Expr) =>
  (bound_Cells fuel z2).bind fun (z3 : Int) =>
  (gd (true && ((z3 == 2) == true)) (bound_Longest fuel z2) 0).bind fun (z4 : Int) =>
  (gd (true && ((cond (z3 == 2) (z4 == 5) false) == true)) (bound_Most fuel z2 3) 0).bind fun (z5 : Int) =>
  lt (cond (cond (z3 == 2) (z4 == 5) false) (z5 == 8) false) fun (z6 : Bool) =>
  some z6

noncomputable def law11_BoundRises (fuel : Nat) (e_0 : T_api_Expr) (p_1 : Int) (q_2 : Int) : Option Bool :=
  (law11_alive fuel ).bind fun (z2 : Bool) =>
  cond (!z2)
    (some false)
    (cond (decide (q_2 < p_1))
      (some true)
      ((bound_Most fuel e_0 p_1).bind fun (z3 : Int) =>
      (bound_Most fuel e_0 q_2).bind fun (z4 : Int) =>
      (gd (true && ((decide (z3 ≤ z4)) == true)) (bound_Most fuel e_0 p_1) 0).bind fun (z5 : Int) =>
      (gd (true && ((decide (z3 ≤ z4)) == true)) (bound_Cells fuel e_0) 0).bind fun (z6 : Int) =>
      some (cond (decide (z3 ≤ z4)) ((z5 == 0) == (z6 == 0)) false)))

end Go.Proofs.Ytlikbfnaihccmaa.M
