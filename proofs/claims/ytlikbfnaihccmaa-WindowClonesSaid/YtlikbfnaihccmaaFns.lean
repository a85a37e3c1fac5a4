/- The functions, as plain Lean: written by gen2.py. -/
import Derived.Test.YtlikbfnaihccmaaEng
namespace Go.Proofs.Ytlikbfnaihccmaa.M
open Go.Eng Go
set_option linter.unusedVariables false

structure T_law16_Step where
  At : Int
  F : Bool
  G : Bool
def T_law16_Step_tup (x : T_law16_Step) : Int × Bool × Bool × Unit := (x.At, x.F, x.G, ())
def T_law16_Step_rep0 := (Rep.cons (Rep.int .i64) (Rep.cons (Rep.bool) (Rep.cons (Rep.bool) Rep.nil0)))
def T_law16_Step_rep : Rep T_law16_Step := T_law16_Step_rep0.iso T_law16_Step_tup
def T_law16_Step_zero : T_law16_Step := ⟨0, false, false⟩
instance : Inhabited T_law16_Step := ⟨T_law16_Step_zero⟩

structure T_deque_Cell where
  At : Int
  N : Int
def T_deque_Cell_tup (x : T_deque_Cell) : Int × Int × Unit := (x.At, x.N, ())
def T_deque_Cell_rep0 := (Rep.cons (Rep.int .i64) (Rep.cons (Rep.int .i64) Rep.nil0))
def T_deque_Cell_rep : Rep T_deque_Cell := T_deque_Cell_rep0.iso T_deque_Cell_tup
def T_deque_Cell_zero : T_deque_Cell := ⟨0, 0⟩
instance : Inhabited T_deque_Cell := ⟨T_deque_Cell_zero⟩

structure T_deque_Deque where
  cells : (List T_deque_Cell)
  gone : Int
  sum : Int
def T_deque_Deque_tup (x : T_deque_Deque) : (List T_deque_Cell) × Int × Int × Unit := (x.cells, x.gone, x.sum, ())
def T_deque_Deque_rep0 := (Rep.cons ((T_deque_Cell_rep).slice) (Rep.cons (Rep.int .i64) (Rep.cons (Rep.int .i64) Rep.nil0)))
def T_deque_Deque_rep : Rep T_deque_Deque := T_deque_Deque_rep0.iso T_deque_Deque_tup
def T_deque_Deque_zero : T_deque_Deque := ⟨[], 0, 0⟩
instance : Inhabited T_deque_Deque := ⟨T_deque_Deque_zero⟩
def T_deque_Deque_tupo (x : T_deque_Deque) : Unit × Int × Int × Unit := ((), x.gone, x.sum, ())
def T_deque_Deque_repo0 (v0 : Value) := (Rep.cons ((Rep.isv v0)) (Rep.cons (Rep.int .i64) (Rep.cons (Rep.int .i64) Rep.nil0)))
def T_deque_Deque_repo (v0 : Value) : Rep T_deque_Deque := (T_deque_Deque_repo0 v0).iso T_deque_Deque_tupo

structure T_window_span where
  lo : Int
  hi : Int
  last : Int
  made : Bool
  was : T_deque_Deque
def T_window_span_tup (x : T_window_span) : Int × Int × Int × Bool × T_deque_Deque × Unit := (x.lo, x.hi, x.last, x.made, x.was, ())
def T_window_span_rep0 := (Rep.cons (Rep.int .i64) (Rep.cons (Rep.int .i64) (Rep.cons (Rep.int .i64) (Rep.cons (Rep.bool) (Rep.cons (T_deque_Deque_rep) Rep.nil0)))))
def T_window_span_rep : Rep T_window_span := T_window_span_rep0.iso T_window_span_tup
def T_window_span_zero : T_window_span := ⟨0, 0, 0, false, T_deque_Deque_zero⟩
instance : Inhabited T_window_span := ⟨T_window_span_zero⟩
def T_window_span_tupo (x : T_window_span) : Int × Int × Int × Bool × T_deque_Deque × Unit := (x.lo, x.hi, x.last, x.made, x.was, ())
def T_window_span_repo0 (v0 : Value) := (Rep.cons (Rep.int .i64) (Rep.cons (Rep.int .i64) (Rep.cons (Rep.int .i64) (Rep.cons (Rep.bool) (Rep.cons ((T_deque_Deque_repo v0)) Rep.nil0)))))
def T_window_span_repo (v0 : Value) : Rep T_window_span := (T_window_span_repo0 v0).iso T_window_span_tupo

structure T_window_Once where
  span : T_window_span
def T_window_Once_tup (x : T_window_Once) : T_window_span × Unit := (x.span, ())
def T_window_Once_rep0 := (Rep.cons (T_window_span_rep) Rep.nil0)
def T_window_Once_rep : Rep T_window_Once := T_window_Once_rep0.iso T_window_Once_tup
def T_window_Once_zero : T_window_Once := ⟨T_window_span_zero⟩
instance : Inhabited T_window_Once := ⟨T_window_Once_zero⟩
def T_window_Once_tupo (x : T_window_Once) : T_window_span × Unit := (x.span, ())
def T_window_Once_repo0 (v0 : Value) := (Rep.cons ((T_window_span_repo v0)) Rep.nil0)
def T_window_Once_repo (v0 : Value) : Rep T_window_Once := (T_window_Once_repo0 v0).iso T_window_Once_tupo

structure T_window_Since where
  span : T_window_span
def T_window_Since_tup (x : T_window_Since) : T_window_span × Unit := (x.span, ())
def T_window_Since_rep0 := (Rep.cons (T_window_span_rep) Rep.nil0)
def T_window_Since_rep : Rep T_window_Since := T_window_Since_rep0.iso T_window_Since_tup
def T_window_Since_zero : T_window_Since := ⟨T_window_span_zero⟩
instance : Inhabited T_window_Since := ⟨T_window_Since_zero⟩
def T_window_Since_tupo (x : T_window_Since) : T_window_span × Unit := (x.span, ())
def T_window_Since_repo0 (v0 : Value) := (Rep.cons ((T_window_span_repo v0)) Rep.nil0)
def T_window_Since_repo (v0 : Value) : Rep T_window_Since := (T_window_Since_repo0 v0).iso T_window_Since_tupo

noncomputable def window_spanOf (lo_0 : Int) (hi_1 : Int) : Option T_window_span :=
  cond (hi_1 != (-1))
    (some ({ (⟨max lo_0 0, max hi_1 (max lo_0 0), 0, true, T_deque_Deque_zero⟩ : T_window_span) with was := { T_deque_Deque_zero with cells := ([] : List T_deque_Cell) } }))
    (some ({ (⟨max lo_0 0, hi_1, 0, true, T_deque_Deque_zero⟩ : T_window_span) with was := { T_deque_Deque_zero with cells := ([] : List T_deque_Cell) } }))

noncomputable def window_NewOnce (lo_0 : Int) (hi_1 : Int) : Option T_window_Once :=
  (window_spanOf lo_0 hi_1).bind fun (z1 : T_window_span) =>
  some (⟨z1⟩ : T_window_Once)

noncomputable def window_NewSince (lo_0 : Int) (hi_1 : Int) : Option T_window_Since :=
  (window_spanOf lo_0 hi_1).bind fun (z1 : T_window_span) =>
  some (⟨z1⟩ : T_window_Since)

noncomputable def deque_Deque_in (d_0 : T_deque_Deque) : Option (Nat × Nat) :=
  (cut d_0.cells.length d_0.gone (d_0.cells.length)).bind fun (z1 : Nat × Nat) =>
  some (z1.1, z1.2)

noncomputable def slices_Clone_deque_Cell_deque_Cell (s_0 : (List T_deque_Cell)) : Option (List T_deque_Cell) :=
  alt s_0
    (some [])
    ((app 16 ([] : List T_deque_Cell) s_0).bind fun (z2 : List T_deque_Cell) =>
    some z2)

noncomputable def deque_Deque_shrink (d_0 : T_deque_Deque) : Option T_deque_Deque :=
  cond (decide ((d_0.cells.length : Int) ≤ (IntKind.i64.wrap (2 * d_0.gone))))
    ((cut d_0.cells.length d_0.gone (d_0.cells.length)).bind fun (z2 : Nat × Nat) =>
    (slices_Clone_deque_Cell_deque_Cell ((d_0.cells.drop z2.1).take (z2.2 - z2.1))).bind fun (z3 : (List T_deque_Cell)) =>
    some ({ ({ d_0 with gone := 0 }) with cells := z3 }))
    (some d_0)

noncomputable def deque_Deque_Prune_L1b (z1 : (Nat × Nat)) (d_0 : T_deque_Deque) (a_1 : Int) (z7 : (Int × Int × T_deque_Deque)) : Option ((Int × Int × T_deque_Deque) ⊕ (Int × T_deque_Deque)) :=
  cond (decide (z7.2.1 < ((z1.2 - z1.1 : Nat) : Int)))
    ((at? ((d_0.cells.drop z1.1).take (z1.2 - z1.1)) z7.2.1).bind fun (z8 : Nat) =>
    cond (decide (a_1 ≤ ((d_0.cells.getD (z1.1 + z8) T_deque_Cell_zero).At)))
      (brk (some (z7.1, z7.2.2)))
      (some (.inl (IntKind.i64.wrap (z7.1 + 1), IntKind.i64.wrap (z7.2.1 + 1), { z7.2.2 with sum := IntKind.i64.wrap (z7.2.2.sum - ((d_0.cells.getD (z1.1 + z8) T_deque_Cell_zero).N)) }))))
    (brk (some (z7.1, z7.2.2)))
noncomputable def deque_Deque_Prune_L1 (z1 : (Nat × Nat)) (d_0 : T_deque_Deque) (a_1 : Int) (z7 : (Int × Int × T_deque_Deque)) : Option (Int × T_deque_Deque) := loopO (deque_Deque_Prune_L1b z1 d_0 a_1) z7

noncomputable def deque_Deque_Prune (d_0 : T_deque_Deque) (a_1 : Int) : Option (Int × T_deque_Deque) :=
  (deque_Deque_in d_0).bind fun (z1 : (Nat × Nat)) =>
  chk d_0.cells.length z1 <|
  (deque_Deque_Prune_L1 z1 d_0 a_1 (0, 0, d_0)).bind fun (z3 : (Int × T_deque_Deque)) =>
  cond (decide (0 < z3.1))
    ((deque_Deque_shrink ({ ({ z3.2 with gone := IntKind.i64.wrap (z3.2.gone + z3.1) }) with cells := d_0.cells })).bind fun (z4 : T_deque_Deque) =>
    some (z3.1, z4))
    (some (z3.1, { z3.2 with cells := d_0.cells }))

noncomputable def window_span_moment (p_0 : T_window_span) (a_1 : Int) : Option T_window_span :=
  cond (p_0.hi != (-1))
    ((deque_Deque_Prune p_0.was (IntKind.i64.wrap ((max p_0.last a_1) - p_0.hi))).bind fun (z2 : (Int × T_deque_Deque)) =>
    some ({ ({ p_0 with last := max p_0.last a_1 }) with was := z2.2 }))
    (some ({ p_0 with last := max p_0.last a_1 }))

noncomputable def deque_Deque_Len (d_0 : T_deque_Deque) : Option Int :=
  (deque_Deque_in d_0).bind fun (z1 : (Nat × Nat)) =>
  chk d_0.cells.length z1 <|
  some ((z1.2 - z1.1 : Nat) : Int)

noncomputable def deque_Deque_Last (d_0 : T_deque_Deque) : Option (T_deque_Cell × Bool) :=
  (deque_Deque_in d_0).bind fun (z2 : (Nat × Nat)) =>
  chk d_0.cells.length z2 <|
  cond (((z2.2 - z2.1 : Nat) : Int) == 0)
    (some ((⟨0, 0⟩ : T_deque_Cell), false))
    ((at? ((d_0.cells.drop z2.1).take (z2.2 - z2.1)) (IntKind.i64.wrap (((z2.2 - z2.1 : Nat) : Int) - 1))).bind fun (z4 : Nat) =>
    some ((d_0.cells.getD (z2.1 + z4) T_deque_Cell_zero), true))

noncomputable def deque_Deque_Push (d_0 : T_deque_Deque) (a_1 : Int) : Option (Bool × T_deque_Deque) :=
  (deque_Deque_Last d_0).bind fun (z1 : (T_deque_Cell × Bool)) =>
  cond (cond false true (cond z1.2 (decide (a_1 < z1.1.At)) false))
    (some (false, d_0))
    (cond (cond (!z1.2) true (decide (z1.1.At < a_1)))
      ((app 16 d_0.cells ([(⟨a_1, 1⟩ : T_deque_Cell)] : List T_deque_Cell)).bind fun (z4 : List T_deque_Cell) =>
      some (true, { ({ d_0 with sum := IntKind.i64.wrap (d_0.sum + 1) }) with cells := z4 }))
      (cond (decide (z1.1.N < 32768))
        ((at? d_0.cells (IntKind.i64.wrap ((d_0.cells.length : Int) - 1))).bind fun (z6 : Nat) =>
        (at? d_0.cells (IntKind.i64.wrap ((d_0.cells.length : Int) - 1))).bind fun (z7 : Nat) =>
        some (true, { ({ d_0 with sum := IntKind.i64.wrap (d_0.sum + 1) }) with cells := (d_0.cells.set z7 ({ (d_0.cells.getD z7 T_deque_Cell_zero) with N := IntKind.i64.wrap (((d_0.cells.getD z6 T_deque_Cell_zero).N) + 1) })) }))
        (some (true, d_0))))

noncomputable def window_span_note (p_0 : T_window_span) : Option T_window_span :=
  (gd (true && ((p_0.hi != (-1)) == false)) (deque_Deque_Len p_0.was) 0).bind fun (z1 : Int) =>
  cond (cond (p_0.hi != (-1)) true (z1 == 0))
    ((deque_Deque_Push p_0.was p_0.last).bind fun (z4 : (Bool × T_deque_Deque)) =>
    some ({ p_0 with was := z4.2 }))
    (some p_0)

noncomputable def deque_Deque_First (d_0 : T_deque_Deque) : Option (T_deque_Cell × Bool) :=
  (deque_Deque_in d_0).bind fun (z2 : (Nat × Nat)) =>
  chk d_0.cells.length z2 <|
  cond (((z2.2 - z2.1 : Nat) : Int) == 0)
    (some ((⟨0, 0⟩ : T_deque_Cell), false))
    ((at? ((d_0.cells.drop z2.1).take (z2.2 - z2.1)) 0).bind fun (z4 : Nat) =>
    some ((d_0.cells.getD (z2.1 + z4) T_deque_Cell_zero), true))

noncomputable def window_span_holds (p_0 : T_window_span) : Option Bool :=
  (deque_Deque_First p_0.was).bind fun (z1 : (T_deque_Cell × Bool)) =>
  some (cond z1.2 (decide (p_0.lo ≤ (IntKind.i64.wrap (p_0.last - z1.1.At)))) false)

noncomputable def window_Once_Step (w_0 : T_window_Once) (a_1 : Int) (f_2 : Bool) : Option (Bool × T_window_Once) :=
  cond (cond false true (!w_0.span.made))
    (some (false, w_0))
    ((window_span_moment w_0.span a_1).bind fun (z1 : T_window_span) =>
    cond f_2
      ((window_span_note z1).bind fun (z4 : T_window_span) =>
      (window_span_holds z4).bind fun (z7 : Bool) =>
      some (z7, { w_0 with span := z4 }))
      ((window_span_holds z1).bind fun (z9 : Bool) =>
      some (z9, { w_0 with span := z1 })))

noncomputable def window_span_remembered (p_0 : T_window_span) : Option Int :=
  (deque_Deque_Len p_0.was).bind fun (z1 : Int) =>
  some z1

noncomputable def window_Once_Cells (w_0 : T_window_Once) : Option Int :=
  (window_span_remembered w_0.span).bind fun (z1 : Int) =>
  some z1

noncomputable def deque_Deque_Clear (d_0 : T_deque_Deque) : Option T_deque_Deque :=
  some ({ (⟨[], 0, 0⟩ : T_deque_Deque) with cells := ([] : List T_deque_Cell) })

noncomputable def window_span_forget (p_0 : T_window_span) : Option T_window_span :=
  (deque_Deque_Clear p_0.was).bind fun (z1 : T_deque_Deque) =>
  some ({ p_0 with was := z1 })

noncomputable def window_Since_Step (w_0 : T_window_Since) (a_1 : Int) (f_2 : Bool) (g_3 : Bool) : Option (Bool × T_window_Since) :=
  cond (cond false true (!w_0.span.made))
    (some (false, w_0))
    ((window_span_moment w_0.span a_1).bind fun (z1 : T_window_span) =>
    cond (!f_2)
      ((window_span_forget z1).bind fun (z4 : T_window_span) =>
      cond g_3
        ((window_span_note z4).bind fun (z7 : T_window_span) =>
        (window_span_holds z7).bind fun (z10 : Bool) =>
        some (z10, { w_0 with span := z7 }))
        ((window_span_holds z4).bind fun (z12 : Bool) =>
        some (z12, { w_0 with span := z4 })))
      (cond g_3
        ((window_span_note z1).bind fun (z14 : T_window_span) =>
        (window_span_holds z14).bind fun (z17 : Bool) =>
        some (z17, { w_0 with span := z14 }))
        ((window_span_holds z1).bind fun (z19 : Bool) =>
        some (z19, { w_0 with span := z1 }))))

noncomputable def window_Since_Cells (w_0 : T_window_Since) : Option Int :=
  (window_span_remembered w_0.span).bind fun (z1 : Int) =>
  some z1

noncomputable def law16_alive  : Option Bool :=
  (window_NewOnce 0 5).bind fun (z1 : T_window_Once) =>
  (window_NewSince 0 (-1)).bind fun (z6 : T_window_Since) =>
  (window_Once_Step z1 0 true).bind fun (z11 : (Bool × T_window_Once)) =>
  (gd (true && (z11.1 == true)) (window_Once_Step z11.2 5 false) (false, z11.2)).bind fun (z14 : (Bool × T_window_Once)) =>
  (gd (true && ((cond z11.1 z14.1 false) == true)) (window_Once_Cells z14.2) 0).bind fun (z17 : Int) =>
  (gd (true && ((cond (cond z11.1 z14.1 false) (z17 == 1) false) == true)) (window_Once_Step z14.2 6 false) (false, z14.2)).bind fun (z19 : (Bool × T_window_Once)) =>
  (gd (true && ((cond (cond (cond z11.1 z14.1 false) (z17 == 1) false) (!z19.1) false) == true)) (window_Since_Step z6 0 false true) (false, z6)).bind fun (z22 : (Bool × T_window_Since)) =>
  (gd (true && ((cond (cond (cond (cond z11.1 z14.1 false) (z17 == 1) false) (!z19.1) false) z22.1 false) == true)) (window_Since_Step z22.2 9 true false) (false, z22.2)).bind fun (z25 : (Bool × T_window_Since)) =>
  (gd (true && ((cond (cond (cond (cond (cond z11.1 z14.1 false) (z17 == 1) false) (!z19.1) false) z22.1 false) z25.1 false) == true)) (window_Since_Cells z25.2) 0).bind fun (z28 : Int) =>
  (gd (true && ((cond (cond (cond (cond (cond (cond z11.1 z14.1 false) (z17 == 1) false) (!z19.1) false) z22.1 false) z25.1 false) (z28 == 1) false) == true)) (window_Since_Step z25.2 9 false false) (false, z25.2)).bind fun (z30 : (Bool × T_window_Since)) =>
  lt (cond (cond (cond (cond (cond (cond (cond z11.1 z14.1 false) (z17 == 1) false) (!z19.1) false) z22.1 false) z25.1 false) (z28 == 1) false) (!z30.1) false) fun (z33 : Bool) =>
  some z33

noncomputable def law16_few (l_0 : (List T_law16_Step)) : Option (List T_law16_Step) :=
  cond (decide (50 < (l_0.length : Int)))
    ((sub l_0 0 50).bind fun (z1 : (List T_law16_Step)) =>
    some z1)
    (some l_0)

noncomputable def deque_Deque_All (d_0 : T_deque_Deque) : Option (List T_deque_Cell) :=
  (deque_Deque_in d_0).bind fun (z1 : (Nat × Nat)) =>
  chk d_0.cells.length z1 <|
  (slices_Clone_deque_Cell_deque_Cell ((d_0.cells.drop z1.1).take (z1.2 - z1.1))).bind fun (z3 : (List T_deque_Cell)) =>
  some z3

noncomputable def deque_Deque_Clone (d_0 : T_deque_Deque) : Option T_deque_Deque :=
  (deque_Deque_All d_0).bind fun (z2 : (List T_deque_Cell)) =>
  some (⟨z2, 0, d_0.sum⟩ : T_deque_Deque)

noncomputable def window_span_apart (p_0 : T_window_span) : Option T_window_span :=
  (deque_Deque_Clone p_0.was).bind fun (z3 : T_deque_Deque) =>
  some ({ p_0 with was := z3 })

noncomputable def window_Once_Clone (w_0 : T_window_Once) : Option (Option T_window_Once) :=
  cond (cond false true (!w_0.span.made))
    (some none)
    ((window_span_apart w_0.span).bind fun (z1 : T_window_span) =>
    some (some (⟨z1⟩ : T_window_Once)))

noncomputable def window_Since_Clone (w_0 : T_window_Since) : Option (Option T_window_Since) :=
  cond (cond false true (!w_0.span.made))
    (some none)
    ((window_span_apart w_0.span).bind fun (z1 : T_window_span) =>
    some (some (⟨z1⟩ : T_window_Since)))

noncomputable def law16_WindowClones_L1b (z3 : (List T_law16_Step)) (z38 : (Int × T_window_Since × T_window_Since × T_window_Once × T_window_Once × T_window_Since × T_window_Once)) : Option ((Int × T_window_Since × T_window_Since × T_window_Once × T_window_Once × T_window_Since × T_window_Once) ⊕ (Unit ⊕ Bool)) :=
  cond (decide (z38.1 < (z3.length : Int)))
    ((idx z3 z38.1).bind fun (z40 : T_law16_Step) =>
    (idx z3 z38.1).bind fun (z41 : T_law16_Step) =>
    (window_Once_Step z38.2.2.2.2.1 z40.At (!z41.F)).bind fun (z42 : (Bool × T_window_Once)) =>
    (idx z3 z38.1).bind fun (z45 : T_law16_Step) =>
    (idx z3 z38.1).bind fun (z46 : T_law16_Step) =>
    (idx z3 z38.1).bind fun (z47 : T_law16_Step) =>
    (window_Since_Step z38.2.2.1 z45.At (!z46.F) (!z47.G)).bind fun (z48 : (Bool × T_window_Since)) =>
    (idx z3 z38.1).bind fun (z51 : T_law16_Step) =>
    (idx z3 z38.1).bind fun (z52 : T_law16_Step) =>
    (window_Once_Step z38.2.2.2.1 z51.At z52.F).bind fun (z53 : (Bool × T_window_Once)) =>
    (idx z3 z38.1).bind fun (z55 : T_law16_Step) =>
    (idx z3 z38.1).bind fun (z56 : T_law16_Step) =>
    (window_Once_Step z38.2.2.2.2.2.2 z55.At z56.F).bind fun (z57 : (Bool × T_window_Once)) =>
    (idx z3 z38.1).bind fun (z60 : T_law16_Step) =>
    (idx z3 z38.1).bind fun (z61 : T_law16_Step) =>
    (idx z3 z38.1).bind fun (z62 : T_law16_Step) =>
    (window_Since_Step z38.2.1 z60.At z61.F z62.G).bind fun (z63 : (Bool × T_window_Since)) =>
    (idx z3 z38.1).bind fun (z65 : T_law16_Step) =>
    (idx z3 z38.1).bind fun (z66 : T_law16_Step) =>
    (idx z3 z38.1).bind fun (z67 : T_law16_Step) =>
    (window_Since_Step z38.2.2.2.2.2.1 z65.At z66.F z67.G).bind fun (z68 : (Bool × T_window_Since)) =>
    (gd (true && ((cond (z53.1 != z57.1) true (z63.1 != z68.1)) == false)) (window_Once_Cells z53.2) 0).bind fun (z70 : Int) =>
    (gd (true && ((cond (z53.1 != z57.1) true (z63.1 != z68.1)) == false)) (window_Once_Cells z57.2) 0).bind fun (z72 : Int) =>
    (gd (true && ((cond (cond (z53.1 != z57.1) true (z63.1 != z68.1)) true (z70 != z72)) == false)) (window_Since_Cells z63.2) 0).bind fun (z74 : Int) =>
    (gd (true && ((cond (cond (z53.1 != z57.1) true (z63.1 != z68.1)) true (z70 != z72)) == false)) (window_Since_Cells z68.2) 0).bind fun (z76 : Int) =>
    cond (cond (cond (cond (z53.1 != z57.1) true (z63.1 != z68.1)) true (z70 != z72)) true (z74 != z76))
      (brk (brk (some false)))
      (some (.inl (IntKind.i64.wrap (z38.1 + 1), z63.2, z48.2, z53.2, z42.2, z68.2, z57.2))))
    (brk (some (.inl ())))
noncomputable def law16_WindowClones_L1 (z3 : (List T_law16_Step)) (z38 : (Int × T_window_Since × T_window_Since × T_window_Once × T_window_Once × T_window_Since × T_window_Once)) : Option (Unit ⊕ Bool) := loopO (law16_WindowClones_L1b z3) z38

noncomputable def law16_WindowClones_L2b (z2 : (List T_law16_Step)) (z78 : (Int × T_window_Since × T_window_Once × T_window_Since × T_window_Once)) : Option ((Int × T_window_Since × T_window_Once × T_window_Since × T_window_Once) ⊕ (T_window_Since × T_window_Once × T_window_Since × T_window_Once)) :=
  cond (decide (z78.1 < (z2.length : Int)))
    ((idx z2 z78.1).bind fun (z80 : T_law16_Step) =>
    (idx z2 z78.1).bind fun (z81 : T_law16_Step) =>
    (window_Once_Step z78.2.2.2.2 z80.At z81.F).bind fun (z82 : (Bool × T_window_Once)) =>
    (idx z2 z78.1).bind fun (z85 : T_law16_Step) =>
    (idx z2 z78.1).bind fun (z86 : T_law16_Step) =>
    (window_Once_Step z78.2.2.1 z85.At z86.F).bind fun (z87 : (Bool × T_window_Once)) =>
    (idx z2 z78.1).bind fun (z90 : T_law16_Step) =>
    (idx z2 z78.1).bind fun (z91 : T_law16_Step) =>
    (idx z2 z78.1).bind fun (z92 : T_law16_Step) =>
    (window_Since_Step z78.2.2.2.1 z90.At z91.F z92.G).bind fun (z93 : (Bool × T_window_Since)) =>
    (idx z2 z78.1).bind fun (z96 : T_law16_Step) =>
    (idx z2 z78.1).bind fun (z97 : T_law16_Step) =>
    (idx z2 z78.1).bind fun (z98 : T_law16_Step) =>
    (window_Since_Step z78.2.1 z96.At z97.F z98.G).bind fun (z99 : (Bool × T_window_Since)) =>
    some (.inl (IntKind.i64.wrap (z78.1 + 1), z99.2, z87.2, z93.2, z82.2)))
    (brk (some (z78.2.1, z78.2.2.1, z78.2.2.2.1, z78.2.2.2.2)))
noncomputable def law16_WindowClones_L2 (z2 : (List T_law16_Step)) (z78 : (Int × T_window_Since × T_window_Once × T_window_Since × T_window_Once)) : Option (T_window_Since × T_window_Once × T_window_Since × T_window_Once) := loopO (law16_WindowClones_L2b z2) z78

noncomputable def law16_WindowClones (lo_0 : Int) (hi_1 : Int) (a_2 : (List T_law16_Step)) (b_3 : (List T_law16_Step)) : Option Bool :=
  (law16_alive ).bind fun (z1 : Bool) =>
  cond (!z1)
    (some false)
    ((law16_few a_2).bind fun (z2 : (List T_law16_Step)) =>
    (law16_few b_3).bind fun (z3 : (List T_law16_Step)) =>
    (window_NewOnce lo_0 hi_1).bind fun (z4 : T_window_Once) =>
    (window_NewSince lo_0 hi_1).bind fun (z9 : T_window_Since) =>
    (window_NewOnce lo_0 hi_1).bind fun (z14 : T_window_Once) =>
    (window_NewSince lo_0 hi_1).bind fun (z19 : T_window_Since) =>
    (law16_WindowClones_L2 z2 (0, z19, z14, z9, z4)).bind fun (z24 : (T_window_Since × T_window_Once × T_window_Since × T_window_Once)) =>
    (window_Once_Clone z24.2.2.2).bind fun (z25 : (Option T_window_Once)) =>
    optc z25
      (none)
      (fun (z30 : T_window_Once) => (window_Since_Clone z24.2.2.1).bind fun (z31 : (Option T_window_Since)) =>
      optc z31
        (none)
        (fun (z36 : T_window_Since) => both (law16_WindowClones_L1 z3 (0, z36, z24.2.2.1, z30, z24.2.2.2, z24.1, z24.2.1)) fun (z37 : Unit) =>
        some true)))

end Go.Proofs.Ytlikbfnaihccmaa.M
