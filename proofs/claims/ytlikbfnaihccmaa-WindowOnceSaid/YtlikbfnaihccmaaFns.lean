/- The functions, as plain Lean: written by gen2.py. -/
import Derived.Test.YtlikbfnaihccmaaEng
namespace Go.Proofs.Ytlikbfnaihccmaa.M
open Go.Eng Go
set_option linter.unusedVariables false

structure T_law17_Step where
  At : Int
  Is : Bool
def T_law17_Step_tup (x : T_law17_Step) : Int × Bool × Unit := (x.At, x.Is, ())
def T_law17_Step_rep0 := (Rep.cons (Rep.int .i64) (Rep.cons (Rep.bool) Rep.nil0))
def T_law17_Step_rep : Rep T_law17_Step := T_law17_Step_rep0.iso T_law17_Step_tup
def T_law17_Step_zero : T_law17_Step := ⟨0, false⟩
instance : Inhabited T_law17_Step := ⟨T_law17_Step_zero⟩

structure T_deque_Cell where
  At : Int
  N : Int
def T_deque_Cell_tup (x : T_deque_Cell) : Int × Int × Unit := (x.At, x.N, ())
def T_deque_Cell_rep0 := (Rep.cons (Rep.int .i64) (Rep.cons (Rep.int .i64) Rep.nil0))
def T_deque_Cell_rep : Rep T_deque_Cell := T_deque_Cell_rep0.iso T_deque_Cell_tup
def T_deque_Cell_zero : T_deque_Cell := ⟨0, 0⟩
instance : Inhabited T_deque_Cell := ⟨T_deque_Cell_zero⟩

structure T_deque_Deque where
  cells : (List T_deque_Cell)
  gone : Int
  sum : Int
def T_deque_Deque_tup (x : T_deque_Deque) : (List T_deque_Cell) × Int × Int × Unit := (x.cells, x.gone, x.sum, ())
def T_deque_Deque_rep0 := (Rep.cons ((T_deque_Cell_rep).slice) (Rep.cons (Rep.int .i64) (Rep.cons (Rep.int .i64) Rep.nil0)))
def T_deque_Deque_rep : Rep T_deque_Deque := T_deque_Deque_rep0.iso T_deque_Deque_tup
def T_deque_Deque_zero : T_deque_Deque := ⟨[], 0, 0⟩
instance : Inhabited T_deque_Deque := ⟨T_deque_Deque_zero⟩
def T_deque_Deque_tupo (x : T_deque_Deque) : Unit × Int × Int × Unit := ((), x.gone, x.sum, ())
def T_deque_Deque_repo0 (v0 : Value) := (Rep.cons ((Rep.isv v0)) (Rep.cons (Rep.int .i64) (Rep.cons (Rep.int .i64) Rep.nil0)))
def T_deque_Deque_repo (v0 : Value) : Rep T_deque_Deque := (T_deque_Deque_repo0 v0).iso T_deque_Deque_tupo

structure T_tally_Tally where
  hi : Int
  last : Int
  made : Bool
  was : T_deque_Deque
def T_tally_Tally_tup (x : T_tally_Tally) : Int × Int × Bool × T_deque_Deque × Unit := (x.hi, x.last, x.made, x.was, ())
def T_tally_Tally_rep0 := (Rep.cons (Rep.int .i64) (Rep.cons (Rep.int .i64) (Rep.cons (Rep.bool) (Rep.cons (T_deque_Deque_rep) Rep.nil0))))
def T_tally_Tally_rep : Rep T_tally_Tally := T_tally_Tally_rep0.iso T_tally_Tally_tup
def T_tally_Tally_zero : T_tally_Tally := ⟨0, 0, false, T_deque_Deque_zero⟩
instance : Inhabited T_tally_Tally := ⟨T_tally_Tally_zero⟩
def T_tally_Tally_tupo (x : T_tally_Tally) : Int × Int × Bool × T_deque_Deque × Unit := (x.hi, x.last, x.made, x.was, ())
def T_tally_Tally_repo0 (v0 : Value) := (Rep.cons (Rep.int .i64) (Rep.cons (Rep.int .i64) (Rep.cons (Rep.bool) (Rep.cons ((T_deque_Deque_repo v0)) Rep.nil0))))
def T_tally_Tally_repo (v0 : Value) : Rep T_tally_Tally := (T_tally_Tally_repo0 v0).iso T_tally_Tally_tupo

structure T_law16_Step where
  At : Int
  F : Bool
  G : Bool
def T_law16_Step_tup (x : T_law16_Step) : Int × Bool × Bool × Unit := (x.At, x.F, x.G, ())
def T_law16_Step_rep0 := (Rep.cons (Rep.int .i64) (Rep.cons (Rep.bool) (Rep.cons (Rep.bool) Rep.nil0)))
def T_law16_Step_rep : Rep T_law16_Step := T_law16_Step_rep0.iso T_law16_Step_tup
def T_law16_Step_zero : T_law16_Step := ⟨0, false, false⟩
instance : Inhabited T_law16_Step := ⟨T_law16_Step_zero⟩

structure T_window_span where
  lo : Int
  hi : Int
  last : Int
  made : Bool
  was : T_deque_Deque
def T_window_span_tup (x : T_window_span) : Int × Int × Int × Bool × T_deque_Deque × Unit := (x.lo, x.hi, x.last, x.made, x.was, ())
def T_window_span_rep0 := (Rep.cons (Rep.int .i64) (Rep.cons (Rep.int .i64) (Rep.cons (Rep.int .i64) (Rep.cons (Rep.bool) (Rep.cons (T_deque_Deque_rep) Rep.nil0)))))
def T_window_span_rep : Rep T_window_span := T_window_span_rep0.iso T_window_span_tup
def T_window_span_zero : T_window_span := ⟨0, 0, 0, false, T_deque_Deque_zero⟩
instance : Inhabited T_window_span := ⟨T_window_span_zero⟩
def T_window_span_tupo (x : T_window_span) : Int × Int × Int × Bool × T_deque_Deque × Unit := (x.lo, x.hi, x.last, x.made, x.was, ())
def T_window_span_repo0 (v0 : Value) := (Rep.cons (Rep.int .i64) (Rep.cons (Rep.int .i64) (Rep.cons (Rep.int .i64) (Rep.cons (Rep.bool) (Rep.cons ((T_deque_Deque_repo v0)) Rep.nil0)))))
def T_window_span_repo (v0 : Value) : Rep T_window_span := (T_window_span_repo0 v0).iso T_window_span_tupo

structure T_window_Once where
  span : T_window_span
def T_window_Once_tup (x : T_window_Once) : T_window_span × Unit := (x.span, ())
def T_window_Once_rep0 := (Rep.cons (T_window_span_rep) Rep.nil0)
def T_window_Once_rep : Rep T_window_Once := T_window_Once_rep0.iso T_window_Once_tup
def T_window_Once_zero : T_window_Once := ⟨T_window_span_zero⟩
instance : Inhabited T_window_Once := ⟨T_window_Once_zero⟩
def T_window_Once_tupo (x : T_window_Once) : T_window_span × Unit := (x.span, ())
def T_window_Once_repo0 (v0 : Value) := (Rep.cons ((T_window_span_repo v0)) Rep.nil0)
def T_window_Once_repo (v0 : Value) : Rep T_window_Once := (T_window_Once_repo0 v0).iso T_window_Once_tupo

structure T_window_Since where
  span : T_window_span
def T_window_Since_tup (x : T_window_Since) : T_window_span × Unit := (x.span, ())
def T_window_Since_rep0 := (Rep.cons (T_window_span_rep) Rep.nil0)
def T_window_Since_rep : Rep T_window_Since := T_window_Since_rep0.iso T_window_Since_tup
def T_window_Since_zero : T_window_Since := ⟨T_window_span_zero⟩
instance : Inhabited T_window_Since := ⟨T_window_Since_zero⟩
def T_window_Since_tupo (x : T_window_Since) : T_window_span × Unit := (x.span, ())
def T_window_Since_repo0 (v0 : Value) := (Rep.cons ((T_window_span_repo v0)) Rep.nil0)
def T_window_Since_repo (v0 : Value) : Rep T_window_Since := (T_window_Since_repo0 v0).iso T_window_Since_tupo

noncomputable def tally_New (hi_0 : Int) : Option T_tally_Tally :=
  some ({ (⟨max hi_0 0, 0, true, T_deque_Deque_zero⟩ : T_tally_Tally) with was := { T_deque_Deque_zero with cells := ([] : List T_deque_Cell) } })

noncomputable def deque_Deque_in (d_0 : T_deque_Deque) : Option (Nat × Nat) :=
  (cut d_0.cells.length d_0.gone (d_0.cells.length)).bind fun (z1 : Nat × Nat) =>
  some (z1.1, z1.2)

noncomputable def slices_Clone_deque_Cell_deque_Cell (s_0 : (List T_deque_Cell)) : Option (List T_deque_Cell) :=
  alt s_0
    (some [])
    ((app 16 ([] : List T_deque_Cell) s_0).bind fun (z2 : List T_deque_Cell) =>
    some z2)

noncomputable def deque_Deque_shrink (d_0 : T_deque_Deque) : Option T_deque_Deque :=
  cond (decide ((d_0.cells.length : Int) ≤ (IntKind.i64.wrap (2 * d_0.gone))))
    ((cut d_0.cells.length d_0.gone (d_0.cells.length)).bind fun (z2 : Nat × Nat) =>
    (slices_Clone_deque_Cell_deque_Cell ((d_0.cells.drop z2.1).take (z2.2 - z2.1))).bind fun (z3 : (List T_deque_Cell)) =>
    some ({ ({ d_0 with gone := 0 }) with cells := z3 }))
    (some d_0)

noncomputable def deque_Deque_Prune_L1b (z1 : (Nat × Nat)) (d_0 : T_deque_Deque) (a_1 : Int) (z7 : (Int × Int × T_deque_Deque)) : Option ((Int × Int × T_deque_Deque) ⊕ (Int × T_deque_Deque)) :=
  cond (decide (z7.2.1 < ((z1.2 - z1.1 : Nat) : Int)))
    ((at? ((d_0.cells.drop z1.1).take (z1.2 - z1.1)) z7.2.1).bind fun (z8 : Nat) =>
    cond (decide (a_1 ≤ ((d_0.cells.getD (z1.1 + z8) T_deque_Cell_zero).At)))
      (brk (some (z7.1, z7.2.2)))
      (some (.inl (IntKind.i64.wrap (z7.1 + 1), IntKind.i64.wrap (z7.2.1 + 1), { z7.2.2 with sum := IntKind.i64.wrap (z7.2.2.sum - ((d_0.cells.getD (z1.1 + z8) T_deque_Cell_zero).N)) }))))
    (brk (some (z7.1, z7.2.2)))
noncomputable def deque_Deque_Prune_L1 (z1 : (Nat × Nat)) (d_0 : T_deque_Deque) (a_1 : Int) (z7 : (Int × Int × T_deque_Deque)) : Option (Int × T_deque_Deque) := loopO (deque_Deque_Prune_L1b z1 d_0 a_1) z7

noncomputable def deque_Deque_Prune (d_0 : T_deque_Deque) (a_1 : Int) : Option (Int × T_deque_Deque) :=
  (deque_Deque_in d_0).bind fun (z1 : (Nat × Nat)) =>
  chk d_0.cells.length z1 <|
  (deque_Deque_Prune_L1 z1 d_0 a_1 (0, 0, d_0)).bind fun (z3 : (Int × T_deque_Deque)) =>
  cond (decide (0 < z3.1))
    ((deque_Deque_shrink ({ ({ z3.2 with gone := IntKind.i64.wrap (z3.2.gone + z3.1) }) with cells := d_0.cells })).bind fun (z4 : T_deque_Deque) =>
    some (z3.1, z4))
    (some (z3.1, { z3.2 with cells := d_0.cells }))

noncomputable def deque_Deque_Last (d_0 : T_deque_Deque) : Option (T_deque_Cell × Bool) :=
  (deque_Deque_in d_0).bind fun (z2 : (Nat × Nat)) =>
  chk d_0.cells.length z2 <|
  cond (((z2.2 - z2.1 : Nat) : Int) == 0)
    (some ((⟨0, 0⟩ : T_deque_Cell), false))
    ((at? ((d_0.cells.drop z2.1).take (z2.2 - z2.1)) (IntKind.i64.wrap (((z2.2 - z2.1 : Nat) : Int) - 1))).bind fun (z4 : Nat) =>
    some ((d_0.cells.getD (z2.1 + z4) T_deque_Cell_zero), true))

noncomputable def deque_Deque_Push (d_0 : T_deque_Deque) (a_1 : Int) : Option (Bool × T_deque_Deque) :=
  (deque_Deque_Last d_0).bind fun (z1 : (T_deque_Cell × Bool)) =>
  cond (cond false true (cond z1.2 (decide (a_1 < z1.1.At)) false))
    (some (false, d_0))
    (cond (cond (!z1.2) true (decide (z1.1.At < a_1)))
      ((app 16 d_0.cells ([(⟨a_1, 1⟩ : T_deque_Cell)] : List T_deque_Cell)).bind fun (z4 : List T_deque_Cell) =>
      some (true, { ({ d_0 with sum := IntKind.i64.wrap (d_0.sum + 1) }) with cells := z4 }))
      (cond (decide (z1.1.N < 32768))
        ((at? d_0.cells (IntKind.i64.wrap ((d_0.cells.length : Int) - 1))).bind fun (z6 : Nat) =>
        (at? d_0.cells (IntKind.i64.wrap ((d_0.cells.length : Int) - 1))).bind fun (z7 : Nat) =>
        some (true, { ({ d_0 with sum := IntKind.i64.wrap (d_0.sum + 1) }) with cells := (d_0.cells.set z7 ({ (d_0.cells.getD z7 T_deque_Cell_zero) with N := IntKind.i64.wrap (((d_0.cells.getD z6 T_deque_Cell_zero).N) + 1) })) }))
        (some (true, d_0))))

noncomputable def deque_Deque_Sum (d_0 : T_deque_Deque) : Option Int :=
  some d_0.sum

noncomputable def tally_Tally_Step (t_0 : T_tally_Tally) (a_1 : Int) (is_2 : Bool) : Option (Int × T_tally_Tally) :=
  cond (cond false true (!t_0.made))
    (some (0, t_0))
    ((deque_Deque_Prune t_0.was (IntKind.i64.wrap ((max t_0.last a_1) - t_0.hi))).bind fun (z2 : (Int × T_deque_Deque)) =>
    cond is_2
      ((deque_Deque_Push z2.2 (max t_0.last a_1)).bind fun (z5 : (Bool × T_deque_Deque)) =>
      (deque_Deque_Sum z5.2).bind fun (z7 : Int) =>
      some (z7, { ({ t_0 with last := max t_0.last a_1 }) with was := z5.2 }))
      ((deque_Deque_Sum z2.2).bind fun (z9 : Int) =>
      some (z9, { ({ t_0 with last := max t_0.last a_1 }) with was := z2.2 })))

noncomputable def deque_Deque_Len (d_0 : T_deque_Deque) : Option Int :=
  (deque_Deque_in d_0).bind fun (z1 : (Nat × Nat)) =>
  chk d_0.cells.length z1 <|
  some ((z1.2 - z1.1 : Nat) : Int)

noncomputable def tally_Tally_Cells (t_0 : T_tally_Tally) : Option Int :=
  (deque_Deque_Len t_0.was).bind fun (z1 : Int) =>
  some z1

noncomputable def law17_alive  : Option Bool :=
  (tally_New 5).bind fun (z1 : T_tally_Tally) =>
  (tally_Tally_Step z1 0 true).bind fun (z6 : (Int × T_tally_Tally)) =>
  (gd (true && ((z6.1 == 1) == true)) (tally_Tally_Step z6.2 5 true) (0, z6.2)).bind fun (z9 : (Int × T_tally_Tally)) =>
  (gd (true && ((cond (z6.1 == 1) (z9.1 == 2) false) == true)) (tally_Tally_Step z9.2 6 true) (0, z9.2)).bind fun (z12 : (Int × T_tally_Tally)) =>
  (gd (true && ((cond (cond (z6.1 == 1) (z9.1 == 2) false) (z12.1 == 2) false) == true)) (tally_Tally_Cells z12.2) 0).bind fun (z15 : Int) =>
  lt (cond (cond (cond (z6.1 == 1) (z9.1 == 2) false) (z12.1 == 2) false) (z15 == 2) false) fun (z17 : Bool) =>
  some z17

noncomputable def law17_few (l_0 : (List T_law17_Step)) : Option (List T_law17_Step) :=
  cond (decide (60 < (l_0.length : Int)))
    ((sub l_0 0 60).bind fun (z1 : (List T_law17_Step)) =>
    some z1)
    (some l_0)

noncomputable def deque_Deque_All (d_0 : T_deque_Deque) : Option (List T_deque_Cell) :=
  (deque_Deque_in d_0).bind fun (z1 : (Nat × Nat)) =>
  chk d_0.cells.length z1 <|
  (slices_Clone_deque_Cell_deque_Cell ((d_0.cells.drop z1.1).take (z1.2 - z1.1))).bind fun (z3 : (List T_deque_Cell)) =>
  some z3

noncomputable def deque_Deque_Clone (d_0 : T_deque_Deque) : Option T_deque_Deque :=
  (deque_Deque_All d_0).bind fun (z2 : (List T_deque_Cell)) =>
  some (⟨z2, 0, d_0.sum⟩ : T_deque_Deque)

noncomputable def tally_Tally_Clone (t_0 : T_tally_Tally) : Option (Option T_tally_Tally) :=
  cond (cond false true (!t_0.made))
    (some none)
    ((deque_Deque_Clone t_0.was).bind fun (z2 : T_deque_Deque) =>
    some (some ({ t_0 with was := z2 })))

noncomputable def tally_Tally_Step_n0 (a_1 : Int) (is_2 : Bool) : Option Int :=
  (gd (true && (true == false)) none ()).bind fun (z1 : Unit) =>
  (gd (true && (true == false)) none ()).bind fun (z2 : Unit) =>
  (gd (true && (true == false)) none false).bind fun (z3 : Bool) =>
  cond (cond true true (!z3))
    (some 0)
    (none)

noncomputable def tally_Tally_Cells_n0  : Option Int :=
  some 0

noncomputable def tally_Tally_Clone_n0  : Option Unit :=
  (gd (true && (true == false)) none ()).bind fun (z1 : Unit) =>
  (gd (true && (true == false)) none ()).bind fun (z2 : Unit) =>
  (gd (true && (true == false)) none false).bind fun (z3 : Bool) =>
  cond (cond true true (!z3))
    (some ())
    (none)

noncomputable def law17_TallyClones_L1b (z3 : (List T_law17_Step)) (z44 : (Int × T_tally_Tally × T_tally_Tally)) : Option ((Int × T_tally_Tally × T_tally_Tally) ⊕ (Unit ⊕ Bool)) :=
  cond (decide (z44.1 < (z3.length : Int)))
    ((idx z3 z44.1).bind fun (z46 : T_law17_Step) =>
    (idx z3 z44.1).bind fun (z47 : T_law17_Step) =>
    (tally_Tally_Step z44.2.1 z46.At (!z47.Is)).bind fun (z48 : (Int × T_tally_Tally)) =>
    (idx z3 z44.1).bind fun (z51 : T_law17_Step) =>
    (idx z3 z44.1).bind fun (z52 : T_law17_Step) =>
    (tally_Tally_Step_n0 z51.At z52.Is).bind fun (z53 : Int) =>
    (idx z3 z44.1).bind fun (z54 : T_law17_Step) =>
    (idx z3 z44.1).bind fun (z55 : T_law17_Step) =>
    (tally_Tally_Step z44.2.2 z54.At z55.Is).bind fun (z56 : (Int × T_tally_Tally)) =>
    (gd (true && ((z53 != z56.1) == false)) (tally_Tally_Cells_n0 ) 0).bind fun (z58 : Int) =>
    (gd (true && ((z53 != z56.1) == false)) (tally_Tally_Cells z56.2) 0).bind fun (z59 : Int) =>
    cond (cond (z53 != z56.1) true (z58 != z59))
      (brk (brk (some false)))
      (some (.inl (IntKind.i64.wrap (z44.1 + 1), z48.2, z56.2))))
    (brk (some (.inl ())))
noncomputable def law17_TallyClones_L1 (z3 : (List T_law17_Step)) (z44 : (Int × T_tally_Tally × T_tally_Tally)) : Option (Unit ⊕ Bool) := loopO (law17_TallyClones_L1b z3) z44

noncomputable def law17_TallyClones_L2b (z3 : (List T_law17_Step)) (z79 : (Int × T_tally_Tally × T_tally_Tally × T_tally_Tally)) : Option ((Int × T_tally_Tally × T_tally_Tally × T_tally_Tally) ⊕ (Unit ⊕ Bool)) :=
  cond (decide (z79.1 < (z3.length : Int)))
    ((idx z3 z79.1).bind fun (z81 : T_law17_Step) =>
    (idx z3 z79.1).bind fun (z82 : T_law17_Step) =>
    (tally_Tally_Step z79.2.2.1 z81.At (!z82.Is)).bind fun (z83 : (Int × T_tally_Tally)) =>
    (idx z3 z79.1).bind fun (z86 : T_law17_Step) =>
    (idx z3 z79.1).bind fun (z87 : T_law17_Step) =>
    (tally_Tally_Step z79.2.1 z86.At z87.Is).bind fun (z88 : (Int × T_tally_Tally)) =>
    (idx z3 z79.1).bind fun (z90 : T_law17_Step) =>
    (idx z3 z79.1).bind fun (z91 : T_law17_Step) =>
    (tally_Tally_Step z79.2.2.2 z90.At z91.Is).bind fun (z92 : (Int × T_tally_Tally)) =>
    (gd (true && ((z88.1 != z92.1) == false)) (tally_Tally_Cells z88.2) 0).bind fun (z94 : Int) =>
    (gd (true && ((z88.1 != z92.1) == false)) (tally_Tally_Cells z92.2) 0).bind fun (z96 : Int) =>
    cond (cond (z88.1 != z92.1) true (z94 != z96))
      (brk (brk (some false)))
      (some (.inl (IntKind.i64.wrap (z79.1 + 1), z88.2, z83.2, z92.2))))
    (brk (some (.inl ())))
noncomputable def law17_TallyClones_L2 (z3 : (List T_law17_Step)) (z79 : (Int × T_tally_Tally × T_tally_Tally × T_tally_Tally)) : Option (Unit ⊕ Bool) := loopO (law17_TallyClones_L2b z3) z79

noncomputable def law17_TallyClones_L3b (z2 : (List T_law17_Step)) (z98 : (Int × T_tally_Tally × T_tally_Tally × T_tally_Tally)) : Option ((Int × T_tally_Tally × T_tally_Tally × T_tally_Tally) ⊕ ((T_tally_Tally × T_tally_Tally) ⊕ Bool)) :=
  cond (decide (z98.1 < (z2.length : Int)))
    ((idx z2 z98.1).bind fun (z100 : T_law17_Step) =>
    (idx z2 z98.1).bind fun (z101 : T_law17_Step) =>
    (tally_Tally_Step z98.2.2.2 z100.At z101.Is).bind fun (z102 : (Int × T_tally_Tally)) =>
    (idx z2 z98.1).bind fun (z104 : T_law17_Step) =>
    (idx z2 z98.1).bind fun (z105 : T_law17_Step) =>
    (tally_Tally_Step z98.2.2.1 z104.At z105.Is).bind fun (z106 : (Int × T_tally_Tally)) =>
    (idx z2 z98.1).bind fun (z108 : T_law17_Step) =>
    (idx z2 z98.1).bind fun (z109 : T_law17_Step) =>
    (tally_Tally_Step z98.2.1 z108.At z109.Is).bind fun (z110 : (Int × T_tally_Tally)) =>
    cond (cond (z102.1 != z106.1) true (decide (z110.1 < z102.1)))
      (brk (brk (some false)))
      (some (.inl (IntKind.i64.wrap (z98.1 + 1), z110.2, z106.2, z102.2))))
    (brk (some (.inl (z98.2.2.1, z98.2.2.2))))
noncomputable def law17_TallyClones_L3 (z2 : (List T_law17_Step)) (z98 : (Int × T_tally_Tally × T_tally_Tally × T_tally_Tally)) : Option ((T_tally_Tally × T_tally_Tally) ⊕ Bool) := loopO (law17_TallyClones_L3b z2) z98

noncomputable def law17_TallyClones (hi_0 : Int) (more_1 : Int) (a_2 : (List T_law17_Step)) (b_3 : (List T_law17_Step)) : Option Bool :=
  (law17_alive ).bind fun (z1 : Bool) =>
  cond (!z1)
    (some false)
    ((law17_few a_2).bind fun (z2 : (List T_law17_Step)) =>
    (law17_few b_3).bind fun (z3 : (List T_law17_Step)) =>
    (tally_New hi_0).bind fun (z4 : T_tally_Tally) =>
    (tally_New hi_0).bind fun (z9 : T_tally_Tally) =>
    (tally_New (max hi_0 more_1)).bind fun (z14 : T_tally_Tally) =>
    both (law17_TallyClones_L3 z2 (0, z14, z9, z4)) fun (z19 : (T_tally_Tally × T_tally_Tally)) =>
    (tally_Tally_Clone z19.2).bind fun (z20 : (Option T_tally_Tally)) =>
    optc z20
      (both (law17_TallyClones_L1 z3 (0, z19.2, z19.1)) fun (z26 : Unit) =>
      (tally_Tally_Step_n0 0 true).bind fun (z28 : Int) =>
      (gd (true && ((z28 == 0) == true)) (tally_Tally_Cells_n0 ) 0).bind fun (z29 : Int) =>
      (gd (true && ((cond (z28 == 0) (z29 == 0) false) == true)) (tally_Tally_Clone_n0 ) ()).bind fun (z30 : Unit) =>
      (gd (true && ((cond (cond (z28 == 0) (z29 == 0) false) true false) == true)) (tally_Tally_Step ({ (⟨0, 0, false, T_deque_Deque_zero⟩ : T_tally_Tally) with was := { T_deque_Deque_zero with cells := ([] : List T_deque_Cell) } }) 0 true) (0, { (⟨0, 0, false, T_deque_Deque_zero⟩ : T_tally_Tally) with was := { T_deque_Deque_zero with cells := ([] : List T_deque_Cell) } })).bind fun (z31 : (Int × T_tally_Tally)) =>
      (gd (true && ((cond (cond (cond (z28 == 0) (z29 == 0) false) true false) (z31.1 == 0) false) == true)) (tally_Tally_Cells z31.2) 0).bind fun (z34 : Int) =>
      (gd (true && ((cond (cond (cond (cond (z28 == 0) (z29 == 0) false) true false) (z31.1 == 0) false) (z34 == 0) false) == true)) (tally_Tally_Clone z31.2) none).bind fun (z36 : (Option T_tally_Tally)) =>
      optc z36
        (lt (cond (cond (cond (cond (cond (z28 == 0) (z29 == 0) false) true false) (z31.1 == 0) false) (z34 == 0) false) true false) fun (z42 : Bool) =>
        some z42)
        (fun (z41 : T_tally_Tally) => lt (cond (cond (cond (cond (cond (z28 == 0) (z29 == 0) false) true false) (z31.1 == 0) false) (z34 == 0) false) false false) fun (z43 : Bool) =>
        some z43))
      (fun (z25 : T_tally_Tally) => both (law17_TallyClones_L2 z3 (0, z25, z19.2, z19.1)) fun (z61 : Unit) =>
      (tally_Tally_Step_n0 0 true).bind fun (z63 : Int) =>
      (gd (true && ((z63 == 0) == true)) (tally_Tally_Cells_n0 ) 0).bind fun (z64 : Int) =>
      (gd (true && ((cond (z63 == 0) (z64 == 0) false) == true)) (tally_Tally_Clone_n0 ) ()).bind fun (z65 : Unit) =>
      (gd (true && ((cond (cond (z63 == 0) (z64 == 0) false) true false) == true)) (tally_Tally_Step ({ (⟨0, 0, false, T_deque_Deque_zero⟩ : T_tally_Tally) with was := { T_deque_Deque_zero with cells := ([] : List T_deque_Cell) } }) 0 true) (0, { (⟨0, 0, false, T_deque_Deque_zero⟩ : T_tally_Tally) with was := { T_deque_Deque_zero with cells := ([] : List T_deque_Cell) } })).bind fun (z66 : (Int × T_tally_Tally)) =>
      (gd (true && ((cond (cond (cond (z63 == 0) (z64 == 0) false) true false) (z66.1 == 0) false) == true)) (tally_Tally_Cells z66.2) 0).bind fun (z69 : Int) =>
      (gd (true && ((cond (cond (cond (cond (z63 == 0) (z64 == 0) false) true false) (z66.1 == 0) false) (z69 == 0) false) == true)) (tally_Tally_Clone z66.2) none).bind fun (z71 : (Option T_tally_Tally)) =>
      optc z71
        (lt (cond (cond (cond (cond (cond (z63 == 0) (z64 == 0) false) true false) (z66.1 == 0) false) (z69 == 0) false) true false) fun (z77 : Bool) =>
        some z77)
        (fun (z76 : T_tally_Tally) => lt (cond (cond (cond (cond (cond (z63 == 0) (z64 == 0) false) true false) (z66.1 == 0) false) (z69 == 0) false) false false) fun (z78 : Bool) =>
        some z78)))

noncomputable def window_spanOf (lo_0 : Int) (hi_1 : Int) : Option T_window_span :=
  cond (hi_1 != (-1))
    (some ({ (⟨max lo_0 0, max hi_1 (max lo_0 0), 0, true, T_deque_Deque_zero⟩ : T_window_span) with was := { T_deque_Deque_zero with cells := ([] : List T_deque_Cell) } }))
    (some ({ (⟨max lo_0 0, hi_1, 0, true, T_deque_Deque_zero⟩ : T_window_span) with was := { T_deque_Deque_zero with cells := ([] : List T_deque_Cell) } }))

noncomputable def window_NewOnce (lo_0 : Int) (hi_1 : Int) : Option T_window_Once :=
  (window_spanOf lo_0 hi_1).bind fun (z1 : T_window_span) =>
  some (⟨z1⟩ : T_window_Once)

noncomputable def window_NewSince (lo_0 : Int) (hi_1 : Int) : Option T_window_Since :=
  (window_spanOf lo_0 hi_1).bind fun (z1 : T_window_span) =>
  some (⟨z1⟩ : T_window_Since)

noncomputable def window_span_moment (p_0 : T_window_span) (a_1 : Int) : Option T_window_span :=
  cond (p_0.hi != (-1))
    ((deque_Deque_Prune p_0.was (IntKind.i64.wrap ((max p_0.last a_1) - p_0.hi))).bind fun (z2 : (Int × T_deque_Deque)) =>
    some ({ ({ p_0 with last := max p_0.last a_1 }) with was := z2.2 }))
    (some ({ p_0 with last := max p_0.last a_1 }))

noncomputable def window_span_note (p_0 : T_window_span) : Option T_window_span :=
  (gd (true && ((p_0.hi != (-1)) == false)) (deque_Deque_Len p_0.was) 0).bind fun (z1 : Int) =>
  cond (cond (p_0.hi != (-1)) true (z1 == 0))
    ((deque_Deque_Push p_0.was p_0.last).bind fun (z4 : (Bool × T_deque_Deque)) =>
    some ({ p_0 with was := z4.2 }))
    (some p_0)

noncomputable def deque_Deque_First (d_0 : T_deque_Deque) : Option (T_deque_Cell × Bool) :=
  (deque_Deque_in d_0).bind fun (z2 : (Nat × Nat)) =>
  chk d_0.cells.length z2 <|
  cond (((z2.2 - z2.1 : Nat) : Int) == 0)
    (some ((⟨0, 0⟩ : T_deque_Cell), false))
    ((at? ((d_0.cells.drop z2.1).take (z2.2 - z2.1)) 0).bind fun (z4 : Nat) =>
    some ((d_0.cells.getD (z2.1 + z4) T_deque_Cell_zero), true))

noncomputable def window_span_holds (p_0 : T_window_span) : Option Bool :=
  (deque_Deque_First p_0.was).bind fun (z1 : (T_deque_Cell × Bool)) =>
  some (cond z1.2 (decide (p_0.lo ≤ (IntKind.i64.wrap (p_0.last - z1.1.At)))) false)

noncomputable def window_Once_Step (w_0 : T_window_Once) (a_1 : Int) (f_2 : Bool) : Option (Bool × T_window_Once) :=
  cond (cond false true (!w_0.span.made))
    (some (false, w_0))
    ((window_span_moment w_0.span a_1).bind fun (z1 : T_window_span) =>
    cond f_2
      ((window_span_note z1).bind fun (z4 : T_window_span) =>
      (window_span_holds z4).bind fun (z7 : Bool) =>
      some (z7, { w_0 with span := z4 }))
      ((window_span_holds z1).bind fun (z9 : Bool) =>
      some (z9, { w_0 with span := z1 })))

noncomputable def window_span_remembered (p_0 : T_window_span) : Option Int :=
  (deque_Deque_Len p_0.was).bind fun (z1 : Int) =>
  some z1

noncomputable def window_Once_Cells (w_0 : T_window_Once) : Option Int :=
  (window_span_remembered w_0.span).bind fun (z1 : Int) =>
  some z1

noncomputable def deque_Deque_Clear (d_0 : T_deque_Deque) : Option T_deque_Deque :=
  some ({ (⟨[], 0, 0⟩ : T_deque_Deque) with cells := ([] : List T_deque_Cell) })

noncomputable def window_span_forget (p_0 : T_window_span) : Option T_window_span :=
  (deque_Deque_Clear p_0.was).bind fun (z1 : T_deque_Deque) =>
  some ({ p_0 with was := z1 })

noncomputable def window_Since_Step (w_0 : T_window_Since) (a_1 : Int) (f_2 : Bool) (g_3 : Bool) : Option (Bool × T_window_Since) :=
  cond (cond false true (!w_0.span.made))
    (some (false, w_0))
    ((window_span_moment w_0.span a_1).bind fun (z1 : T_window_span) =>
    cond (!f_2)
      ((window_span_forget z1).bind fun (z4 : T_window_span) =>
      cond g_3
        ((window_span_note z4).bind fun (z7 : T_window_span) =>
        (window_span_holds z7).bind fun (z10 : Bool) =>
        some (z10, { w_0 with span := z7 }))
        ((window_span_holds z4).bind fun (z12 : Bool) =>
        some (z12, { w_0 with span := z4 })))
      (cond g_3
        ((window_span_note z1).bind fun (z14 : T_window_span) =>
        (window_span_holds z14).bind fun (z17 : Bool) =>
        some (z17, { w_0 with span := z14 }))
        ((window_span_holds z1).bind fun (z19 : Bool) =>
        some (z19, { w_0 with span := z1 }))))

noncomputable def window_Since_Cells (w_0 : T_window_Since) : Option Int :=
  (window_span_remembered w_0.span).bind fun (z1 : Int) =>
  some z1

noncomputable def law16_alive  : Option Bool :=
  (window_NewOnce 0 5).bind fun (z1 : T_window_Once) =>
  (window_NewSince 0 (-1)).bind fun (z6 : T_window_Since) =>
  (window_Once_Step z1 0 true).bind fun (z11 : (Bool × T_window_Once)) =>
  (gd (true && (z11.1 == true)) (window_Once_Step z11.2 5 false) (false, z11.2)).bind fun (z14 : (Bool × T_window_Once)) =>
  (gd (true && ((cond z11.1 z14.1 false) == true)) (window_Once_Cells z14.2) 0).bind fun (z17 : Int) =>
  (gd (true && ((cond (cond z11.1 z14.1 false) (z17 == 1) false) == true)) (window_Once_Step z14.2 6 false) (false, z14.2)).bind fun (z19 : (Bool × T_window_Once)) =>
  (gd (true && ((cond (cond (cond z11.1 z14.1 false) (z17 == 1) false) (!z19.1) false) == true)) (window_Since_Step z6 0 false true) (false, z6)).bind fun (z22 : (Bool × T_window_Since)) =>
  (gd (true && ((cond (cond (cond (cond z11.1 z14.1 false) (z17 == 1) false) (!z19.1) false) z22.1 false) == true)) (window_Since_Step z22.2 9 true false) (false, z22.2)).bind fun (z25 : (Bool × T_window_Since)) =>
  (gd (true && ((cond (cond (cond (cond (cond z11.1 z14.1 false) (z17 == 1) false) (!z19.1) false) z22.1 false) z25.1 false) == true)) (window_Since_Cells z25.2) 0).bind fun (z28 : Int) =>
  (gd (true && ((cond (cond (cond (cond (cond (cond z11.1 z14.1 false) (z17 == 1) false) (!z19.1) false) z22.1 false) z25.1 false) (z28 == 1) false) == true)) (window_Since_Step z25.2 9 false false) (false, z25.2)).bind fun (z30 : (Bool × T_window_Since)) =>
  lt (cond (cond (cond (cond (cond (cond (cond z11.1 z14.1 false) (z17 == 1) false) (!z19.1) false) z22.1 false) z25.1 false) (z28 == 1) false) (!z30.1) false) fun (z33 : Bool) =>
  some z33

noncomputable def law16_few (l_0 : (List T_law16_Step)) : Option (List T_law16_Step) :=
  cond (decide (50 < (l_0.length : Int)))
    ((sub l_0 0 50).bind fun (z1 : (List T_law16_Step)) =>
    some z1)
    (some l_0)

noncomputable def law16_times_L1b (l_0 : (List T_law16_Step)) (z2 : (Int × Int × (List Int))) : Option ((Int × Int × (List Int)) ⊕ (List Int)) :=
  cond (decide (z2.2.1 < (l_0.length : Int)))
    ((idx l_0 z2.2.1).bind fun (z3 : T_law16_Step) =>
    (app 8 z2.2.2 ([max z2.1 z3.At] : List Int)).bind fun (z4 : List Int) =>
    some (.inl (max z2.1 z3.At, IntKind.i64.wrap (z2.2.1 + 1), z4)))
    (brk (some z2.2.2))
noncomputable def law16_times_L1 (l_0 : (List T_law16_Step)) (z2 : (Int × Int × (List Int))) : Option (List Int) := loopO (law16_times_L1b l_0) z2

noncomputable def law16_times (l_0 : (List T_law16_Step)) : Option (List Int) :=
  (law16_times_L1 l_0 (0, 0, ([] : (List Int)))).bind fun (z1 : (List Int)) =>
  some z1

noncomputable def law16_ends (lo_0 : Int) (hi_1 : Int) : Option (Int × Int) :=
  cond (cond (hi_1 != (-1)) (decide (hi_1 < (max lo_0 0))) false)
    (some (max lo_0 0, max lo_0 0))
    (some (max lo_0 0, hi_1))

noncomputable def law16_counts_L1b (l_0 : (List T_law16_Step)) (i_1 : Int) (z4 : Int) : Option (Int ⊕ (Unit ⊕ Bool)) :=
  cond (decide (z4 ≤ i_1))
    ((idx l_0 z4).bind fun (z5 : T_law16_Step) =>
    cond (!z5.F)
      (brk (brk (some false)))
      (some (.inl (IntKind.i64.wrap (z4 + 1)))))
    (brk (some (.inl ())))
noncomputable def law16_counts_L1 (l_0 : (List T_law16_Step)) (i_1 : Int) (z4 : Int) : Option (Unit ⊕ Bool) := loopO (law16_counts_L1b l_0 i_1) z4

noncomputable def law16_counts (l_0 : (List T_law16_Step)) (i_1 : Int) (j_2 : Int) (since_3 : Bool) : Option Bool :=
  cond (!since_3)
    ((idx l_0 j_2).bind fun (z1 : T_law16_Step) =>
    some z1.F)
    (both (law16_counts_L1 l_0 i_1 (IntKind.i64.wrap (j_2 + 1))) fun (z2 : Unit) =>
    (idx l_0 j_2).bind fun (z3 : T_law16_Step) =>
    some z3.G)

noncomputable def law16_told_L1b (l_0 : (List T_law16_Step)) (a_1 : (List Int)) (i_2 : Int) (lo_3 : Int) (hi_4 : Int) (since_5 : Bool) (z2 : (Bool × Int × Int × Int)) : Option ((Bool × Int × Int × Int) ⊕ (Bool × Int)) :=
  cond (decide (z2.2.2.2 ≤ i_2))
    ((idx a_1 i_2).bind fun (z3 : Int) =>
    (idx a_1 z2.2.2.2).bind fun (z4 : Int) =>
    (law16_counts l_0 i_2 z2.2.2.2 since_5).bind fun (z5 : Bool) =>
    cond (cond (!z5) true (cond (hi_4 != (-1)) (decide (hi_4 < (IntKind.i64.wrap (z3 - z4)))) false))
      (some (.inl (z2.1, z2.2.1, z2.2.2.1, IntKind.i64.wrap (z2.2.2.2 + 1))))
      (lt (cond z2.1 true (decide (lo_3 ≤ (IntKind.i64.wrap (z3 - z4))))) fun (is6 : Bool) =>
      (idx a_1 z2.2.2.2).bind fun (z7 : Int) =>
      cond (cond (z7 != z2.2.2.1) (cond (hi_4 != (-1)) true (z2.2.1 == 0)) false)
        ((idx a_1 z2.2.2.2).bind fun (z8 : Int) =>
        some (.inl (is6, IntKind.i64.wrap (z2.2.1 + 1), z8, IntKind.i64.wrap (z2.2.2.2 + 1))))
        (some (.inl (is6, z2.2.1, z2.2.2.1, IntKind.i64.wrap (z2.2.2.2 + 1))))))
    (brk (some (z2.1, z2.2.1)))
noncomputable def law16_told_L1 (l_0 : (List T_law16_Step)) (a_1 : (List Int)) (i_2 : Int) (lo_3 : Int) (hi_4 : Int) (since_5 : Bool) (z2 : (Bool × Int × Int × Int)) : Option (Bool × Int) := loopO (law16_told_L1b l_0 a_1 i_2 lo_3 hi_4 since_5) z2

noncomputable def law16_told (l_0 : (List T_law16_Step)) (a_1 : (List Int)) (i_2 : Int) (lo_3 : Int) (hi_4 : Int) (since_5 : Bool) : Option (Bool × Int) :=
  (law16_told_L1 l_0 a_1 i_2 lo_3 hi_4 since_5 (false, 0, (-1), 0)).bind fun (z1 : (Bool × Int)) =>
  some (z1.1, z1.2)

noncomputable def law16_WindowOnce_L1b (z2 : (List T_law16_Step)) (z3 : (List Int)) (z6 : (Int × Int)) (z16 : (Int × T_window_Once)) : Option ((Int × T_window_Once) ⊕ (T_window_Once ⊕ Bool)) :=
  cond (decide (z16.1 < (z2.length : Int)))
    ((law16_told z2 z3 z16.1 z6.1 z6.2 false).bind fun (z17 : (Bool × Int)) =>
    (idx z2 z16.1).bind fun (z19 : T_law16_Step) =>
    (idx z2 z16.1).bind fun (z20 : T_law16_Step) =>
    (window_Once_Step z16.2 z19.At z20.F).bind fun (z21 : (Bool × T_window_Once)) =>
    (gd (true && ((z21.1 != z17.1) == false)) (window_Once_Cells z21.2) 0).bind fun (z23 : Int) =>
    cond (cond (z21.1 != z17.1) true (z23 != z17.2))
      (brk (brk (some false)))
      (some (.inl (IntKind.i64.wrap (z16.1 + 1), z21.2))))
    (brk (some (.inl z16.2)))
noncomputable def law16_WindowOnce_L1 (z2 : (List T_law16_Step)) (z3 : (List Int)) (z6 : (Int × Int)) (z16 : (Int × T_window_Once)) : Option (T_window_Once ⊕ Bool) := loopO (law16_WindowOnce_L1b z2 z3 z6) z16

noncomputable def law16_WindowOnce (lo_0 : Int) (hi_1 : Int) (l_2 : (List T_law16_Step)) : Option Bool :=
  (law16_alive ).bind fun (z1 : Bool) =>
  cond (!z1)
    (some false)
    ((law16_few l_2).bind fun (z2 : (List T_law16_Step)) =>
    (law16_times z2).bind fun (z3 : (List Int)) =>
    (law16_ends lo_0 hi_1).bind fun (z6 : (Int × Int)) =>
    (window_NewOnce lo_0 hi_1).bind fun (z7 : T_window_Once) =>
    both (law16_WindowOnce_L1 z2 z3 z6 (0, z7)) fun (z12 : T_window_Once) =>
    (gd (true && ((decide (0 < (z2.length : Int))) == false)) (window_Once_Cells z12) 0).bind fun (z13 : Int) =>
    lt (cond (decide (0 < (z2.length : Int))) true (z13 == 0)) fun (z15 : Bool) =>
    some z15)

noncomputable def law16_WindowSince_L1b (z2 : (List T_law16_Step)) (z3 : (List Int)) (z6 : (Int × Int)) (z16 : (Int × T_window_Since)) : Option ((Int × T_window_Since) ⊕ (T_window_Since ⊕ Bool)) :=
  cond (decide (z16.1 < (z2.length : Int)))
    ((law16_told z2 z3 z16.1 z6.1 z6.2 true).bind fun (z17 : (Bool × Int)) =>
    (idx z2 z16.1).bind fun (z19 : T_law16_Step) =>
    (idx z2 z16.1).bind fun (z20 : T_law16_Step) =>
    (idx z2 z16.1).bind fun (z21 : T_law16_Step) =>
    (window_Since_Step z16.2 z19.At z20.F z21.G).bind fun (z22 : (Bool × T_window_Since)) =>
    (gd (true && ((z22.1 != z17.1) == false)) (window_Since_Cells z22.2) 0).bind fun (z24 : Int) =>
    cond (cond (z22.1 != z17.1) true (z24 != z17.2))
      (brk (brk (some false)))
      (some (.inl (IntKind.i64.wrap (z16.1 + 1), z22.2))))
    (brk (some (.inl z16.2)))
noncomputable def law16_WindowSince_L1 (z2 : (List T_law16_Step)) (z3 : (List Int)) (z6 : (Int × Int)) (z16 : (Int × T_window_Since)) : Option (T_window_Since ⊕ Bool) := loopO (law16_WindowSince_L1b z2 z3 z6) z16

noncomputable def law16_WindowSince (lo_0 : Int) (hi_1 : Int) (l_2 : (List T_law16_Step)) : Option Bool :=
  (law16_alive ).bind fun (z1 : Bool) =>
  cond (!z1)
    (some false)
    ((law16_few l_2).bind fun (z2 : (List T_law16_Step)) =>
    (law16_times z2).bind fun (z3 : (List Int)) =>
    (law16_ends lo_0 hi_1).bind fun (z6 : (Int × Int)) =>
    (window_NewSince lo_0 hi_1).bind fun (z7 : T_window_Since) =>
    both (law16_WindowSince_L1 z2 z3 z6 (0, z7)) fun (z12 : T_window_Since) =>
    (gd (true && ((decide (0 < (z2.length : Int))) == false)) (window_Since_Cells z12) 0).bind fun (z13 : Int) =>
    lt (cond (decide (0 < (z2.length : Int))) true (z13 == 0)) fun (z15 : Bool) =>
    some z15)

noncomputable def law16_WindowAlike_L1b (z2 : (List T_law16_Step)) (z21 : (Int × T_window_Once × T_window_Since × T_window_Once)) : Option ((Int × T_window_Once × T_window_Since × T_window_Once) ⊕ (Unit ⊕ Bool)) :=
  cond (decide (z21.1 < (z2.length : Int)))
    ((idx z2 z21.1).bind fun (z23 : T_law16_Step) =>
    (idx z2 z21.1).bind fun (z24 : T_law16_Step) =>
    (window_Once_Step z21.2.2.2 z23.At z24.F).bind fun (z25 : (Bool × T_window_Once)) =>
    (idx z2 z21.1).bind fun (z27 : T_law16_Step) =>
    (idx z2 z21.1).bind fun (z28 : T_law16_Step) =>
    (window_Since_Step z21.2.2.1 z27.At true z28.F).bind fun (z29 : (Bool × T_window_Since)) =>
    (idx z2 z21.1).bind fun (z31 : T_law16_Step) =>
    (idx z2 z21.1).bind fun (z32 : T_law16_Step) =>
    (window_Once_Step z21.2.1 z31.At z32.F).bind fun (z33 : (Bool × T_window_Once)) =>
    (gd (true && ((cond (z25.1 != z29.1) true (cond z25.1 (!z33.1) false)) == false)) (window_Once_Cells z25.2) 0).bind fun (z35 : Int) =>
    (gd (true && ((cond (z25.1 != z29.1) true (cond z25.1 (!z33.1) false)) == false)) (window_Since_Cells z29.2) 0).bind fun (z37 : Int) =>
    cond (cond (cond (z25.1 != z29.1) true (cond z25.1 (!z33.1) false)) true (z35 != z37))
      (brk (brk (some false)))
      (some (.inl (IntKind.i64.wrap (z21.1 + 1), z33.2, z29.2, z25.2))))
    (brk (some (.inl ())))
noncomputable def law16_WindowAlike_L1 (z2 : (List T_law16_Step)) (z21 : (Int × T_window_Once × T_window_Since × T_window_Once)) : Option (Unit ⊕ Bool) := loopO (law16_WindowAlike_L1b z2) z21

noncomputable def law16_WindowAlike (lo_0 : Int) (hi_1 : Int) (more_2 : Int) (l_3 : (List T_law16_Step)) : Option Bool :=
  (law16_alive ).bind fun (z1 : Bool) =>
  cond (!z1)
    (some false)
    ((law16_few l_3).bind fun (z2 : (List T_law16_Step)) =>
    (window_NewOnce lo_0 hi_1).bind fun (z3 : T_window_Once) =>
    (window_NewSince lo_0 hi_1).bind fun (z8 : T_window_Since) =>
    (law16_ends lo_0 hi_1).bind fun (z13 : (Int × Int)) =>
    (cond (cond (z13.2 != (-1)) (decide (z13.2 ≤ more_2)) false)
      (some more_2)
      (some (-1))).bind fun (z14 : Int) =>
    (window_NewOnce z13.1 z14).bind fun (z15 : T_window_Once) =>
    both (law16_WindowAlike_L1 z2 (0, z15, z8, z3)) fun (z20 : Unit) =>
    some true)

noncomputable def window_Once_Step_n0 (a_1 : Int) (f_2 : Bool) : Option Bool :=
  (gd (true && (true == false)) none ()).bind fun (z1 : Unit) =>
  (gd (true && (true == false)) none ()).bind fun (z2 : Unit) =>
  (gd (true && (true == false)) none ()).bind fun (z3 : Unit) =>
  (gd (true && (true == false)) none false).bind fun (z4 : Bool) =>
  cond (cond true true (!z4))
    (some false)
    (none)

noncomputable def window_Since_Step_n0 (a_1 : Int) (f_2 : Bool) (g_3 : Bool) : Option Bool :=
  (gd (true && (true == false)) none ()).bind fun (z1 : Unit) =>
  (gd (true && (true == false)) none ()).bind fun (z2 : Unit) =>
  (gd (true && (true == false)) none ()).bind fun (z3 : Unit) =>
  (gd (true && (true == false)) none false).bind fun (z4 : Bool) =>
  cond (cond true true (!z4))
    (some false)
    (none)

noncomputable def window_Once_Cells_n0  : Option Int :=
  some 0

noncomputable def window_Since_Cells_n0  : Option Int :=
  some 0

noncomputable def window_Once_Clone_n0  : Option Unit :=
  (gd (true && (true == false)) none ()).bind fun (z1 : Unit) =>
  (gd (true && (true == false)) none ()).bind fun (z2 : Unit) =>
  (gd (true && (true == false)) none ()).bind fun (z3 : Unit) =>
  (gd (true && (true == false)) none false).bind fun (z4 : Bool) =>
  cond (cond true true (!z4))
    (some ())
    (none)

noncomputable def window_Since_Clone_n0  : Option Unit :=
  (gd (true && (true == false)) none ()).bind fun (z1 : Unit) =>
  (gd (true && (true == false)) none ()).bind fun (z2 : Unit) =>
  (gd (true && (true == false)) none ()).bind fun (z3 : Unit) =>
  (gd (true && (true == false)) none false).bind fun (z4 : Bool) =>
  cond (cond true true (!z4))
    (some ())
    (none)

noncomputable def window_span_apart (p_0 : T_window_span) : Option T_window_span :=
  (deque_Deque_Clone p_0.was).bind fun (z3 : T_deque_Deque) =>
  some ({ p_0 with was := z3 })

noncomputable def window_Once_Clone (w_0 : T_window_Once) : Option (Option T_window_Once) :=
  cond (cond false true (!w_0.span.made))
    (some none)
    ((window_span_apart w_0.span).bind fun (z1 : T_window_span) =>
    some (some (⟨z1⟩ : T_window_Once)))

noncomputable def window_Since_Clone (w_0 : T_window_Since) : Option (Option T_window_Since) :=
  cond (cond false true (!w_0.span.made))
    (some none)
    ((window_span_apart w_0.span).bind fun (z1 : T_window_span) =>
    some (some (⟨z1⟩ : T_window_Since)))

noncomputable def law16_WindowNobody (a_0 : Int) (f_1 : Bool) : Option Bool :=
  (law16_alive ).bind fun (z1 : Bool) =>
  cond (!z1)
    (some false)
    ((window_Once_Step_n0 a_0 f_1).bind fun (z4 : Bool) =>
    (gd (true && (z4 == false)) (window_Since_Step_n0 a_0 f_1 f_1) false).bind fun (z5 : Bool) =>
    (gd (true && ((cond z4 true z5) == false)) (window_Once_Step ({ (⟨T_window_span_zero⟩ : T_window_Once) with span := { T_window_span_zero with was := { T_window_span_zero.was with cells := ([] : List T_deque_Cell) } } }) a_0 f_1) (false, { (⟨T_window_span_zero⟩ : T_window_Once) with span := { T_window_span_zero with was := { T_window_span_zero.was with cells := ([] : List T_deque_Cell) } } })).bind fun (z6 : (Bool × T_window_Once)) =>
    (gd (true && ((cond (cond z4 true z5) true z6.1) == false)) (window_Since_Step ({ (⟨T_window_span_zero⟩ : T_window_Since) with span := { T_window_span_zero with was := { T_window_span_zero.was with cells := ([] : List T_deque_Cell) } } }) a_0 f_1 f_1) (false, { (⟨T_window_span_zero⟩ : T_window_Since) with span := { T_window_span_zero with was := { T_window_span_zero.was with cells := ([] : List T_deque_Cell) } } })).bind fun (z9 : (Bool × T_window_Since)) =>
    cond (cond (cond (cond z4 true z5) true z6.1) true z9.1)
      (some false)
      ((window_Once_Cells_n0 ).bind fun (z12 : Int) =>
      (gd (true && ((z12 == 0) == true)) (window_Since_Cells_n0 ) 0).bind fun (z13 : Int) =>
      (gd (true && ((cond (z12 == 0) (z13 == 0) false) == true)) (window_Once_Cells z6.2) 0).bind fun (z14 : Int) =>
      (gd (true && ((cond (cond (z12 == 0) (z13 == 0) false) (z14 == 0) false) == true)) (window_Since_Cells z9.2) 0).bind fun (z16 : Int) =>
      (gd (true && ((cond (cond (cond (z12 == 0) (z13 == 0) false) (z14 == 0) false) (z16 == 0) false) == true)) (window_Once_Clone_n0 ) ()).bind fun (z18 : Unit) =>
      (gd (true && ((cond (cond (cond (cond (z12 == 0) (z13 == 0) false) (z14 == 0) false) (z16 == 0) false) true false) == true)) (window_Since_Clone_n0 ) ()).bind fun (z19 : Unit) =>
      (gd (true && ((cond (cond (cond (cond (cond (z12 == 0) (z13 == 0) false) (z14 == 0) false) (z16 == 0) false) true false) true false) == true)) (window_Once_Clone z6.2) none).bind fun (z20 : (Option T_window_Once)) =>
      optc z20
        ((gd (true && ((cond (cond (cond (cond (cond (cond (z12 == 0) (z13 == 0) false) (z14 == 0) false) (z16 == 0) false) true false) true false) true false) == true)) (window_Since_Clone z9.2) none).bind fun (z26 : (Option T_window_Since)) =>
        optc z26
          (lt (cond (cond (cond (cond (cond (cond (cond (z12 == 0) (z13 == 0) false) (z14 == 0) false) (z16 == 0) false) true false) true false) true false) true false) fun (z32 : Bool) =>
          some z32)
          (fun (z31 : T_window_Since) => lt (cond (cond (cond (cond (cond (cond (cond (z12 == 0) (z13 == 0) false) (z14 == 0) false) (z16 == 0) false) true false) true false) true false) false false) fun (z33 : Bool) =>
          some z33))
        (fun (z25 : T_window_Once) => (gd (true && ((cond (cond (cond (cond (cond (cond (z12 == 0) (z13 == 0) false) (z14 == 0) false) (z16 == 0) false) true false) true false) false false) == true)) (window_Since_Clone z9.2) none).bind fun (z34 : (Option T_window_Since)) =>
        optc z34
          (lt (cond (cond (cond (cond (cond (cond (cond (z12 == 0) (z13 == 0) false) (z14 == 0) false) (z16 == 0) false) true false) true false) false false) true false) fun (z40 : Bool) =>
          some z40)
          (fun (z39 : T_window_Since) => lt (cond (cond (cond (cond (cond (cond (cond (z12 == 0) (z13 == 0) false) (z14 == 0) false) (z16 == 0) false) true false) true false) false false) false false) fun (z41 : Bool) =>
          some z41))))

end Go.Proofs.Ytlikbfnaihccmaa.M
