/- That the Go functions answer as the plain ones: written by gen2.py. -/
import Derived.Test.YtlikbfnaihccmaaOks2
namespace Go.Proofs.Ytlikbfnaihccmaa.M
open Go.Eng Go
abbrev q0 := T_deque_Cell_rep
abbrev q1 := T_window_Once_repo
abbrev q2 := T_window_Since_repo
set_option linter.unusedVariables false

set_option maxHeartbeats 1000000 in
theorem law16_WindowClones_ok  (lo_0 : Int) (hi_1 : Int) (a_2 : (List T_law16_Step)) (b_3 : (List T_law16_Step)) : FunOk Try.prog 11 [⟨Rep.int .i64, lo_0, true⟩, ⟨Rep.int .i64, hi_1, true⟩, ⟨(T_law16_Step_rep).slice, a_2, true⟩, ⟨(T_law16_Step_rep).slice, b_3, true⟩] (law16_WindowClones lo_0 hi_1 a_2 b_3) (Rep.bool) := by
 refine fun_ok Try.func11 rfl Try.ntmps11 rfl (all_cons rfl (all_cons rfl (all_cons rfl (all_cons rfl all_nil)))) (fun w0 ok0 => ?_)
 refine den_seq ?_
 refine den_region rfl ?_
 refine o_assign rfl rfl guard_none look_bool (fun _ => rfl) ?_
 refine o_end ?_
 refine den_seq ?_
 refine den_seq ?_
 refine den_region rfl ?_
 refine o_call rfl rfl rfl callable28 (looks_nil) (law16_alive_ok) (fun z1 => ?_)
 refine o_not rfl rfl guard_none (look_tmp rfl) (fun _ => rfl) ?_
 refine o_end ?_
 refine den_cond (look_tmp rfl) ?_ ?_
 ·refine den_seq ?_
  refine den_region rfl ?_
  refine o_assign rfl rfl guard_none look_bool (fun _ => rfl) ?_
  refine o_end ?_
  refine den_code_ret ?_
  refine dene_ret ?_
  exact dene_res (res1 rfl (rv_tmp rfl))
 ·refine den_skip ?_
  refine den_seq ?_
  refine den_region rfl ?_
  refine o_move rfl rfl guard_none (look_tmp rfl) (fun _ => rfl) ?_
  refine o_call rfl rfl rfl callable29 (looks_cons (look_tmp rfl) (fun _ => rfl) (looks_nil)) (law16_few_ok _) (fun z2 => ?_)
  refine o_move rfl rfl guard_none (look_tmp rfl) (fun _ => rfl) ?_
  refine o_call rfl rfl rfl callable29 (looks_cons (look_tmp rfl) (fun _ => rfl) (looks_nil)) (law16_few_ok _) (fun z3 => ?_)
  refine o_assign rfl rfl guard_none (look_tmp rfl) (fun _ => rfl) ?_
  refine o_assign rfl rfl guard_none (look_tmp rfl) (fun _ => rfl) ?_
  refine o_end ?_
  refine den_seq ?_
  refine den_region rfl ?_
  refine o_move rfl rfl guard_none (look_tmp rfl) (fun _ => rfl) ?_
  refine o_move rfl rfl guard_none (look_tmp rfl) (fun _ => rfl) ?_
  refine o_weak (H' := [] ++ ([] ++ [])) (sub_pick [] rfl rfl) ?_
  refine o_callU rfl rfl rfl rfl rfl callable32 (looks_cons (look_tmp rfl) (fun _ => rfl) (looks_cons (look_tmp rfl) (fun _ => rfl) (looks_nil))) .nil (window_NewOnce_ok lo_0 hi_1) (fun _ _ => (wr_v (wr_c wr_n))) (fun z5α z4 => ?_)
  obtain ⟨⟨z6, z7⟩, z8⟩ := z5α
  refine o_weak (H' := [.vec z8 (q0) z4.span.was.cells, .obj true z6 z7 (.dat (q1 z8)) z4]) (sub_pick [0, 1] rfl rfl) ?_
  refine o_move rfl rfl guard_none (look_tmp rfl) (fun _ => rfl) ?_
  refine o_move rfl rfl guard_none (look_tmp rfl) (fun _ => rfl) ?_
  refine o_weak (H' := [] ++ ([] ++ [.vec z8 (q0) z4.span.was.cells, .obj true z6 z7 (.dat (q1 z8)) z4])) (sub_pick [0, 1] rfl rfl) ?_
  refine o_callU rfl rfl rfl rfl rfl callable36 (looks_cons (look_tmp rfl) (fun _ => rfl) (looks_cons (look_tmp rfl) (fun _ => rfl) (looks_nil))) .nil (window_NewSince_ok lo_0 hi_1) (fun _ _ => (wr_v (wr_c wr_n))) (fun z10α z9 => ?_)
  obtain ⟨⟨z11, z12⟩, z13⟩ := z10α
  refine o_weak (H' := [.vec z13 (q0) z9.span.was.cells, .obj true z11 z12 (.dat (q2 z13)) z9, .vec z8 (q0) z4.span.was.cells, .obj true z6 z7 (.dat (q1 z8)) z4]) (sub_pick [0, 1, 2, 3] rfl rfl) ?_
  refine o_assign rfl rfl guard_none (look_tmp rfl) (fun _ => rfl) ?_
  refine o_assign rfl rfl guard_none (look_tmp rfl) (fun _ => rfl) ?_
  refine o_end ?_
  refine den_seq ?_
  refine den_region rfl ?_
  refine o_move rfl rfl guard_none (look_tmp rfl) (fun _ => rfl) ?_
  refine o_move rfl rfl guard_none (look_tmp rfl) (fun _ => rfl) ?_
  refine o_weak (H' := [] ++ ([] ++ [.vec z13 (q0) z9.span.was.cells, .obj true z11 z12 (.dat (q2 z13)) z9, .vec z8 (q0) z4.span.was.cells, .obj true z6 z7 (.dat (q1 z8)) z4])) (sub_pick [0, 1, 2, 3] rfl rfl) ?_
  refine o_callU rfl rfl rfl rfl rfl callable32 (looks_cons (look_tmp rfl) (fun _ => rfl) (looks_cons (look_tmp rfl) (fun _ => rfl) (looks_nil))) .nil (window_NewOnce_ok lo_0 hi_1) (fun _ _ => (wr_v (wr_c wr_n))) (fun z15α z14 => ?_)
  obtain ⟨⟨z16, z17⟩, z18⟩ := z15α
  refine o_weak (H' := [.vec z18 (q0) z14.span.was.cells, .obj true z16 z17 (.dat (q1 z18)) z14, .vec z13 (q0) z9.span.was.cells, .obj true z11 z12 (.dat (q2 z13)) z9, .vec z8 (q0) z4.span.was.cells, .obj true z6 z7 (.dat (q1 z8)) z4]) (sub_pick [0, 1, 2, 3, 4, 5] rfl rfl) ?_
  refine o_move rfl rfl guard_none (look_tmp rfl) (fun _ => rfl) ?_
  refine o_move rfl rfl guard_none (look_tmp rfl) (fun _ => rfl) ?_
  refine o_weak (H' := [] ++ ([] ++ [.vec z18 (q0) z14.span.was.cells, .obj true z16 z17 (.dat (q1 z18)) z14, .vec z13 (q0) z9.span.was.cells, .obj true z11 z12 (.dat (q2 z13)) z9, .vec z8 (q0) z4.span.was.cells, .obj true z6 z7 (.dat (q1 z8)) z4])) (sub_pick [0, 1, 2, 3, 4, 5] rfl rfl) ?_
  refine o_callU rfl rfl rfl rfl rfl callable36 (looks_cons (look_tmp rfl) (fun _ => rfl) (looks_cons (look_tmp rfl) (fun _ => rfl) (looks_nil))) .nil (window_NewSince_ok lo_0 hi_1) (fun _ _ => (wr_v (wr_c wr_n))) (fun z20α z19 => ?_)
  obtain ⟨⟨z21, z22⟩, z23⟩ := z20α
  refine o_weak (H' := [.vec z23 (q0) z19.span.was.cells, .obj true z21 z22 (.dat (q2 z23)) z19, .vec z18 (q0) z14.span.was.cells, .obj true z16 z17 (.dat (q1 z18)) z14, .vec z13 (q0) z9.span.was.cells, .obj true z11 z12 (.dat (q2 z13)) z9, .vec z8 (q0) z4.span.was.cells, .obj true z6 z7 (.dat (q1 z8)) z4]) (sub_pick [0, 1, 2, 3, 4, 5, 6, 7] rfl rfl) ?_
  refine o_assign rfl rfl guard_none (look_tmp rfl) (fun _ => rfl) ?_
  refine o_assign rfl rfl guard_none (look_tmp rfl) (fun _ => rfl) ?_
  refine o_end ?_
  refine den_seq ?_
  refine den_seq ?_
  refine den_region rfl ?_
  refine o_assign rfl rfl guard_none (look_int rfl) (fun _ => rfl) ?_
  refine o_end ?_
  refine den_bindA (A := (Value × Value × Value × Value)) (fun z24α z24 => [(3, ⟨(T_law16_Step_rep).slice, z3, true⟩), (9, ⟨Rep.addr, (z6, z7), true⟩), (10, ⟨Rep.addr, (z11, z12), true⟩), (11, ⟨Rep.addr, (z16, z17), true⟩), (12, ⟨Rep.addr, (z21, z22), true⟩)]) (fun z24α z24 => [.vec z24α.1 (q0) z24.1.span.was.cells, .obj true z21 z22 (.dat (q2 z24α.1)) z24.1, .vec z24α.2.1 (q0) z24.2.1.span.was.cells, .obj true z16 z17 (.dat (q1 z24α.2.1)) z24.2.1, .vec z24α.2.2.1 (q0) z24.2.2.1.span.was.cells, .obj true z11 z12 (.dat (q2 z24α.2.2.1)) z24.2.2.1, .vec z24α.2.2.2 (q0) z24.2.2.2.span.was.cells, .obj true z6 z7 (.dat (q1 z24α.2.2.2)) z24.2.2.2]) ?_ (fun z24α z24 => ?_)
  ·refine den_block ?_
   refine den_loopA (A := (Value × Value × Value × Value)) (law16_WindowClones_L2b z2) (fun z78α z78 => [(13, ⟨Rep.int .i64, z78.1, true⟩), (2, ⟨(T_law16_Step_rep).slice, z2, true⟩), (3, ⟨(T_law16_Step_rep).slice, z3, true⟩), (9, ⟨Rep.addr, (z6, z7), true⟩), (10, ⟨Rep.addr, (z11, z12), true⟩), (11, ⟨Rep.addr, (z16, z17), true⟩), (12, ⟨Rep.addr, (z21, z22), true⟩)]) (fun z78α z78 => [.vec z78α.1 (q0) z78.2.1.span.was.cells, .obj true z21 z22 (.dat (q2 z78α.1)) z78.2.1, .vec z78α.2.1 (q0) z78.2.2.1.span.was.cells, .obj true z16 z17 (.dat (q1 z78α.2.1)) z78.2.2.1, .vec z78α.2.2.1 (q0) z78.2.2.2.1.span.was.cells, .obj true z11 z12 (.dat (q2 z78α.2.2.1)) z78.2.2.2.1, .vec z78α.2.2.2 (q0) z78.2.2.2.2.span.was.cells, .obj true z6 z7 (.dat (q1 z78α.2.2.2)) z78.2.2.2.2]) (0, z19, z14, z9, z4) (z23, z18, z13, z8) (fun z78α z78 => ?_) ((sub_env (sube_cons rfl (sube_cons rfl (sube_cons rfl (sube_cons rfl (sube_cons rfl (sube_cons rfl (sube_cons rfl (sube_nil))))))))))
   refine den_seq ?_
   refine den_seq ?_
   refine den_region rfl ?_
   refine o_move rfl rfl guard_none (look_tmp rfl) (fun _ => rfl) ?_
   refine o_move rfl rfl guard_none (look_tmp rfl) (fun _ => rfl) ?_
   refine o_llen Try.underlying55 rfl rfl guard_none (look_tmp rfl) (fun _ => rfl) ?_
   refine o_lss rfl rfl guard_none (look_tmp rfl) (look_tmp rfl) (fun _ => rfl) (fun _ => rfl) ?_
   refine o_end ?_
   refine den_cond (look_tmp rfl) ?_ ?_
   ·refine den_skip ?_
    refine den_seq ?_
    refine den_block ?_
    refine den_seq ?_
    refine den_open (fun z80 h_z80 => ?_)
    refine den_open (fun z81 h_z81 => ?_)
    refine den_open (fun z82 h_z82 => ?_)
    have hB : ∀ (z79α : Value) (S : Nat → Bool) (b11 : Bool), S 11 = b11 → (([.vec z78α.1 (q0) z78.2.1.span.was.cells, .obj true z21 z22 (.dat (q2 z78α.1)) z78.2.1, .vec z78α.2.1 (q0) z78.2.2.1.span.was.cells, .obj true z16 z17 (.dat (q1 z78α.2.1)) z78.2.2.1, .vec z78α.2.2.1 (q0) z78.2.2.2.1.span.was.cells, .obj true z11 z12 (.dat (q2 z78α.2.2.1)) z78.2.2.2.1, (cond (S 11) (.gone) (.vec z78α.2.2.2 (q0) z78.2.2.2.2.span.was.cells)), (cond (S 11) (.obj true z6 z7 (.dat (q1 z79α)) z82.2) (.obj true z6 z7 (.dat (q1 z78α.2.2.2)) z78.2.2.2.2)), (cond (S 11) (.vec (z79α) (q0) z82.2.span.was.cells) (.gone))] : List Go.Eng.Item)) = ([.vec z78α.1 (q0) z78.2.1.span.was.cells, .obj true z21 z22 (.dat (q2 z78α.1)) z78.2.1, .vec z78α.2.1 (q0) z78.2.2.1.span.was.cells, .obj true z16 z17 (.dat (q1 z78α.2.1)) z78.2.2.1, .vec z78α.2.2.1 (q0) z78.2.2.2.1.span.was.cells, .obj true z11 z12 (.dat (q2 z78α.2.2.1)) z78.2.2.2.1, (cond b11 (.gone) (.vec z78α.2.2.2 (q0) z78.2.2.2.2.span.was.cells)), (cond b11 (.obj true z6 z7 (.dat (q1 z79α)) z82.2) (.obj true z6 z7 (.dat (q1 z78α.2.2.2)) z78.2.2.2.2)), (cond b11 (.vec (z79α) (q0) z82.2.span.was.cells) (.gone))] : List Go.Eng.Item) := fun z79α S b11 h11 => by subst h11; rfl
    refine den_weak sub_gone ?_
    refine den_weak (sub_pick (H' := [.vec z78α.1 (q0) z78.2.1.span.was.cells, .obj true z21 z22 (.dat (q2 z78α.1)) z78.2.1, .vec z78α.2.1 (q0) z78.2.2.1.span.was.cells, .obj true z16 z17 (.dat (q1 z78α.2.1)) z78.2.2.1, .vec z78α.2.2.1 (q0) z78.2.2.2.1.span.was.cells, .obj true z11 z12 (.dat (q2 z78α.2.2.1)) z78.2.2.2.1, .vec z78α.2.2.2 (q0) z78.2.2.2.2.span.was.cells, .obj true z6 z7 (.dat (q1 z78α.2.2.2)) z78.2.2.2.2, .gone]) [1, 2, 3, 4, 5, 6, 7, 8, 0] rfl rfl) ?_
    refine den_drawA (A := Value) (H' := fun z79α => [.vec z78α.1 (q0) z78.2.1.span.was.cells, .obj true z21 z22 (.dat (q2 z78α.1)) z78.2.1, .vec z78α.2.1 (q0) z78.2.2.1.span.was.cells, .obj true z16 z17 (.dat (q1 z78α.2.1)) z78.2.2.1, .vec z78α.2.2.1 (q0) z78.2.2.2.1.span.was.cells, .obj true z11 z12 (.dat (q2 z78α.2.2.1)) z78.2.2.2.1, .gone, .obj true z6 z7 (.dat (q1 z79α)) z82.2, .vec (z79α) (q0) z82.2.span.was.cells]) (fun z79α => [(45, ⟨Rep.addr, (z6, z7), true⟩), (46, ⟨(T_law16_Step_rep).slice, z2, true⟩), (47, ⟨Rep.int .i64, z78.1, true⟩), (48, ⟨(T_law16_Step_rep).ptrTo, z80, true⟩), (49, ⟨(Rep.int .i64).ptrTo, z80.At, true⟩), (50, ⟨Rep.int .i64, z80.At, true⟩), (51, ⟨(T_law16_Step_rep).slice, z2, true⟩), (52, ⟨Rep.int .i64, z78.1, true⟩), (53, ⟨(T_law16_Step_rep).ptrTo, z81, true⟩), (54, ⟨(Rep.bool).ptrTo, z81.F, true⟩), (55, ⟨Rep.bool, z81.F, true⟩), (56, ⟨Rep.bool, z82.1, true⟩)]) (fun z79α S => [.vec z78α.1 (q0) z78.2.1.span.was.cells, .obj true z21 z22 (.dat (q2 z78α.1)) z78.2.1, .vec z78α.2.1 (q0) z78.2.2.1.span.was.cells, .obj true z16 z17 (.dat (q1 z78α.2.1)) z78.2.2.1, .vec z78α.2.2.1 (q0) z78.2.2.2.1.span.was.cells, .obj true z11 z12 (.dat (q2 z78α.2.2.1)) z78.2.2.2.1, (cond (S 11) (.gone) (.vec z78α.2.2.2 (q0) z78.2.2.2.2.span.was.cells)), (cond (S 11) (.obj true z6 z7 (.dat (q1 z79α)) z82.2) (.obj true z6 z7 (.dat (q1 z78α.2.2.2)) z78.2.2.2.2)), (cond (S 11) (.vec (z79α) (q0) z82.2.span.was.cells) (.gone))]) (Value.slice none 0 0) mixed (fun _ => rfl) rfl rfl (fun z79α S hS => hB z79α S true (hS 11 (by decide))) ⟨?_, ?_, ?_, ?_, ?_, ?_, ?_, ?_, ?_, ?_, ?_, ?_, trivial⟩ (fun z79α => ?_)
    ·intro z79α S hc hk hp
     have e11 : S 11 = false := (not_yet (j := 11) (q := 0) hc hk rfl rfl rfl rfl)
     refine eq_H (H' := [.vec z78α.1 (q0) z78.2.1.span.was.cells, .obj true z21 z22 (.dat (q2 z78α.1)) z78.2.1, .vec z78α.2.1 (q0) z78.2.2.1.span.was.cells, .obj true z16 z17 (.dat (q1 z78α.2.1)) z78.2.2.1, .vec z78α.2.2.1 (q0) z78.2.2.2.1.span.was.cells, .obj true z11 z12 (.dat (q2 z78α.2.2.1)) z78.2.2.2.1, .vec z78α.2.2.2 (q0) z78.2.2.2.2.span.was.cells, .obj true z6 z7 (.dat (q1 z78α.2.2.2)) z78.2.2.2.2, .gone]) (by first | exact hB z79α S false e11 | (have q := hB z79α S false e11; simp only [cond_true, cond_false] at q; exact q)) ?_
     refine o_move rfl rfl guard_none (look_o rfl rfl) (fun _ => rfl) ?_
     apply h_endA (α := z79α) z79α
     ·exact (by (iterate 12 apply EqOn.same); exact .nil)
     ·exact rfl
     ·exact rfl
     ·exact rfl
     ·exact hB z79α (fun k => S k || Nat.beq k 0) false (or_f e11 rfl)
    ·intro z79α S hc hk hp
     have e11 : S 11 = false := (not_yet (j := 11) (q := 1) hc (not_yet (j := 5) (q := 0) hc (not_yet (j := 4) (q := 0) hc (not_yet (j := 3) (q := 0) hc hk rfl rfl rfl rfl) rfl rfl rfl rfl) rfl rfl rfl rfl) rfl rfl rfl rfl)
     refine eq_H (H' := [.vec z78α.1 (q0) z78.2.1.span.was.cells, .obj true z21 z22 (.dat (q2 z78α.1)) z78.2.1, .vec z78α.2.1 (q0) z78.2.2.1.span.was.cells, .obj true z16 z17 (.dat (q1 z78α.2.1)) z78.2.2.1, .vec z78α.2.2.1 (q0) z78.2.2.2.1.span.was.cells, .obj true z11 z12 (.dat (q2 z78α.2.2.1)) z78.2.2.2.1, .vec z78α.2.2.2 (q0) z78.2.2.2.2.span.was.cells, .obj true z6 z7 (.dat (q1 z78α.2.2.2)) z78.2.2.2.2, .gone]) (by first | exact hB z79α S false e11 | (have q := hB z79α S false e11; simp only [cond_true, cond_false] at q; exact q)) ?_
     refine o_move rfl rfl guard_none (look_o rfl rfl) (fun _ => rfl) ?_
     apply h_endA (α := z79α) z79α
     ·exact (by (iterate 12 apply EqOn.same); exact .nil)
     ·exact rfl
     ·exact rfl
     ·exact rfl
     ·exact hB z79α (fun k => S k || Nat.beq k 1) false (or_f e11 rfl)
    ·intro z79α S hc hk hp
     have e11 : S 11 = false := (not_yet (j := 11) (q := 1) hc (not_yet (j := 5) (q := 0) hc (not_yet (j := 4) (q := 0) hc (not_yet (j := 3) (q := 1) hc hk rfl rfl rfl rfl) rfl rfl rfl rfl) rfl rfl rfl rfl) rfl rfl rfl rfl)
     refine eq_H (H' := [.vec z78α.1 (q0) z78.2.1.span.was.cells, .obj true z21 z22 (.dat (q2 z78α.1)) z78.2.1, .vec z78α.2.1 (q0) z78.2.2.1.span.was.cells, .obj true z16 z17 (.dat (q1 z78α.2.1)) z78.2.2.1, .vec z78α.2.2.1 (q0) z78.2.2.2.1.span.was.cells, .obj true z11 z12 (.dat (q2 z78α.2.2.1)) z78.2.2.2.1, .vec z78α.2.2.2 (q0) z78.2.2.2.2.span.was.cells, .obj true z6 z7 (.dat (q1 z78α.2.2.2)) z78.2.2.2.2, .gone]) (by first | exact hB z79α S false e11 | (have q := hB z79α S false e11; simp only [cond_true, cond_false] at q; exact q)) ?_
     refine o_move rfl rfl guard_none (look_o rfl rfl) (fun _ => rfl) ?_
     apply h_endA (α := z79α) z79α
     ·exact (by (iterate 12 apply EqOn.same); exact .nil)
     ·exact rfl
     ·exact rfl
     ·exact rfl
     ·exact hB z79α (fun k => S k || Nat.beq k 2) false (or_f e11 rfl)
    ·intro z79α S hc hk hp
     have e11 : S 11 = false := (not_yet (j := 11) (q := 1) hc (not_yet (j := 5) (q := 0) hc (not_yet (j := 4) (q := 0) hc hk rfl rfl rfl rfl) rfl rfl rfl rfl) rfl rfl rfl rfl)
     refine eq_H (H' := [.vec z78α.1 (q0) z78.2.1.span.was.cells, .obj true z21 z22 (.dat (q2 z78α.1)) z78.2.1, .vec z78α.2.1 (q0) z78.2.2.1.span.was.cells, .obj true z16 z17 (.dat (q1 z78α.2.1)) z78.2.2.1, .vec z78α.2.2.1 (q0) z78.2.2.2.1.span.was.cells, .obj true z11 z12 (.dat (q2 z78α.2.2.1)) z78.2.2.2.1, .vec z78α.2.2.2 (q0) z78.2.2.2.2.span.was.cells, .obj true z6 z7 (.dat (q1 z78α.2.2.2)) z78.2.2.2.2, .gone]) (by first | exact hB z79α S false e11 | (have q := hB z79α S false e11; simp only [cond_true, cond_false] at q; exact q)) ?_
     refine o_from (bind_eqO h_z80) ?_
     refine o_iaddr Try.underlying55 type67 rfl rfl (look_d rfl rfl (pr hp 0 rfl rfl)) (look_d rfl rfl (pr hp 1 rfl rfl)) rfl rfl (o_eqO ?_)
     apply h_endA (α := z79α) z79α
     ·exact (by (iterate 12 apply EqOn.same); exact .nil)
     ·exact rfl
     ·exact rfl
     ·exact rfl
     ·exact hB z79α (fun k => S k || Nat.beq k 3) false (or_f e11 rfl)
    ·intro z79α S hc hk hp
     have e11 : S 11 = false := (not_yet (j := 11) (q := 1) hc (not_yet (j := 5) (q := 0) hc hk rfl rfl rfl rfl) rfl rfl rfl rfl)
     refine eq_H (H' := [.vec z78α.1 (q0) z78.2.1.span.was.cells, .obj true z21 z22 (.dat (q2 z78α.1)) z78.2.1, .vec z78α.2.1 (q0) z78.2.2.1.span.was.cells, .obj true z16 z17 (.dat (q1 z78α.2.1)) z78.2.2.1, .vec z78α.2.2.1 (q0) z78.2.2.2.1.span.was.cells, .obj true z11 z12 (.dat (q2 z78α.2.2.1)) z78.2.2.2.1, .vec z78α.2.2.2 (q0) z78.2.2.2.2.span.was.cells, .obj true z6 z7 (.dat (q1 z78α.2.2.2)) z78.2.2.2.2, .gone]) (by first | exact hB z79α S false e11 | (have q := hB z79α S false e11; simp only [cond_true, cond_false] at q; exact q)) ?_
     refine o_fptr field67_0 type2 (by decide) T_law16_Step_foc0 rfl rfl guard_none (look_d rfl rfl (pr hp 0 rfl rfl)) (fun _ => rfl) ?_
     apply h_endA (α := z79α) z79α
     ·exact (by (iterate 12 apply EqOn.same); exact .nil)
     ·exact rfl
     ·exact rfl
     ·exact rfl
     ·exact hB z79α (fun k => S k || Nat.beq k 4) false (or_f e11 rfl)
    ·intro z79α S hc hk hp
     have e11 : S 11 = false := (not_yet (j := 11) (q := 1) hc hk rfl rfl rfl rfl)
     refine eq_H (H' := [.vec z78α.1 (q0) z78.2.1.span.was.cells, .obj true z21 z22 (.dat (q2 z78α.1)) z78.2.1, .vec z78α.2.1 (q0) z78.2.2.1.span.was.cells, .obj true z16 z17 (.dat (q1 z78α.2.1)) z78.2.2.1, .vec z78α.2.2.1 (q0) z78.2.2.2.1.span.was.cells, .obj true z11 z12 (.dat (q2 z78α.2.2.1)) z78.2.2.2.1, .vec z78α.2.2.2 (q0) z78.2.2.2.2.span.was.cells, .obj true z6 z7 (.dat (q1 z78α.2.2.2)) z78.2.2.2.2, .gone]) (by first | exact hB z79α S false e11 | (have q := hB z79α S false e11; simp only [cond_true, cond_false] at q; exact q)) ?_
     refine o_load type2 rfl rfl guard_none (look_d rfl rfl (pr hp 0 rfl rfl)) (fun _ => rfl) ?_
     apply h_endA (α := z79α) z79α
     ·exact (by (iterate 12 apply EqOn.same); exact .nil)
     ·exact rfl
     ·exact rfl
     ·exact rfl
     ·exact hB z79α (fun k => S k || Nat.beq k 5) false (or_f e11 rfl)
    ·intro z79α S hc hk hp
     have e11 : S 11 = false := (not_yet (j := 11) (q := 2) hc (not_yet (j := 10) (q := 0) hc (not_yet (j := 9) (q := 0) hc (not_yet (j := 8) (q := 0) hc hk rfl rfl rfl rfl) rfl rfl rfl rfl) rfl rfl rfl rfl) rfl rfl rfl rfl)
     refine eq_H (H' := [.vec z78α.1 (q0) z78.2.1.span.was.cells, .obj true z21 z22 (.dat (q2 z78α.1)) z78.2.1, .vec z78α.2.1 (q0) z78.2.2.1.span.was.cells, .obj true z16 z17 (.dat (q1 z78α.2.1)) z78.2.2.1, .vec z78α.2.2.1 (q0) z78.2.2.2.1.span.was.cells, .obj true z11 z12 (.dat (q2 z78α.2.2.1)) z78.2.2.2.1, .vec z78α.2.2.2 (q0) z78.2.2.2.2.span.was.cells, .obj true z6 z7 (.dat (q1 z78α.2.2.2)) z78.2.2.2.2, .gone]) (by first | exact hB z79α S false e11 | (have q := hB z79α S false e11; simp only [cond_true, cond_false] at q; exact q)) ?_
     refine o_move rfl rfl guard_none (look_o rfl rfl) (fun _ => rfl) ?_
     apply h_endA (α := z79α) z79α
     ·exact (by (iterate 12 apply EqOn.same); exact .nil)
     ·exact rfl
     ·exact rfl
     ·exact rfl
     ·exact hB z79α (fun k => S k || Nat.beq k 6) false (or_f e11 rfl)
    ·intro z79α S hc hk hp
     have e11 : S 11 = false := (not_yet (j := 11) (q := 2) hc (not_yet (j := 10) (q := 0) hc (not_yet (j := 9) (q := 0) hc (not_yet (j := 8) (q := 1) hc hk rfl rfl rfl rfl) rfl rfl rfl rfl) rfl rfl rfl rfl) rfl rfl rfl rfl)
     refine eq_H (H' := [.vec z78α.1 (q0) z78.2.1.span.was.cells, .obj true z21 z22 (.dat (q2 z78α.1)) z78.2.1, .vec z78α.2.1 (q0) z78.2.2.1.span.was.cells, .obj true z16 z17 (.dat (q1 z78α.2.1)) z78.2.2.1, .vec z78α.2.2.1 (q0) z78.2.2.2.1.span.was.cells, .obj true z11 z12 (.dat (q2 z78α.2.2.1)) z78.2.2.2.1, .vec z78α.2.2.2 (q0) z78.2.2.2.2.span.was.cells, .obj true z6 z7 (.dat (q1 z78α.2.2.2)) z78.2.2.2.2, .gone]) (by first | exact hB z79α S false e11 | (have q := hB z79α S false e11; simp only [cond_true, cond_false] at q; exact q)) ?_
     refine o_move rfl rfl guard_none (look_o rfl rfl) (fun _ => rfl) ?_
     apply h_endA (α := z79α) z79α
     ·exact (by (iterate 12 apply EqOn.same); exact .nil)
     ·exact rfl
     ·exact rfl
     ·exact rfl
     ·exact hB z79α (fun k => S k || Nat.beq k 7) false (or_f e11 rfl)
    ·intro z79α S hc hk hp
     have e11 : S 11 = false := (not_yet (j := 11) (q := 2) hc (not_yet (j := 10) (q := 0) hc (not_yet (j := 9) (q := 0) hc hk rfl rfl rfl rfl) rfl rfl rfl rfl) rfl rfl rfl rfl)
     refine eq_H (H' := [.vec z78α.1 (q0) z78.2.1.span.was.cells, .obj true z21 z22 (.dat (q2 z78α.1)) z78.2.1, .vec z78α.2.1 (q0) z78.2.2.1.span.was.cells, .obj true z16 z17 (.dat (q1 z78α.2.1)) z78.2.2.1, .vec z78α.2.2.1 (q0) z78.2.2.2.1.span.was.cells, .obj true z11 z12 (.dat (q2 z78α.2.2.1)) z78.2.2.2.1, .vec z78α.2.2.2 (q0) z78.2.2.2.2.span.was.cells, .obj true z6 z7 (.dat (q1 z78α.2.2.2)) z78.2.2.2.2, .gone]) (by first | exact hB z79α S false e11 | (have q := hB z79α S false e11; simp only [cond_true, cond_false] at q; exact q)) ?_
     refine o_from (bind_eqO h_z81) ?_
     refine o_iaddr Try.underlying55 type67 rfl rfl (look_d rfl rfl (pr hp 0 rfl rfl)) (look_d rfl rfl (pr hp 1 rfl rfl)) rfl rfl (o_eqO ?_)
     apply h_endA (α := z79α) z79α
     ·exact (by (iterate 12 apply EqOn.same); exact .nil)
     ·exact rfl
     ·exact rfl
     ·exact rfl
     ·exact hB z79α (fun k => S k || Nat.beq k 8) false (or_f e11 rfl)
    ·intro z79α S hc hk hp
     have e11 : S 11 = false := (not_yet (j := 11) (q := 2) hc (not_yet (j := 10) (q := 0) hc hk rfl rfl rfl rfl) rfl rfl rfl rfl)
     refine eq_H (H' := [.vec z78α.1 (q0) z78.2.1.span.was.cells, .obj true z21 z22 (.dat (q2 z78α.1)) z78.2.1, .vec z78α.2.1 (q0) z78.2.2.1.span.was.cells, .obj true z16 z17 (.dat (q1 z78α.2.1)) z78.2.2.1, .vec z78α.2.2.1 (q0) z78.2.2.2.1.span.was.cells, .obj true z11 z12 (.dat (q2 z78α.2.2.1)) z78.2.2.2.1, .vec z78α.2.2.2 (q0) z78.2.2.2.2.span.was.cells, .obj true z6 z7 (.dat (q1 z78α.2.2.2)) z78.2.2.2.2, .gone]) (by first | exact hB z79α S false e11 | (have q := hB z79α S false e11; simp only [cond_true, cond_false] at q; exact q)) ?_
     refine o_fptr field67_1 type4 (by decide) T_law16_Step_foc1 rfl rfl guard_none (look_d rfl rfl (pr hp 0 rfl rfl)) (fun _ => rfl) ?_
     apply h_endA (α := z79α) z79α
     ·exact (by (iterate 12 apply EqOn.same); exact .nil)
     ·exact rfl
     ·exact rfl
     ·exact rfl
     ·exact hB z79α (fun k => S k || Nat.beq k 9) false (or_f e11 rfl)
    ·intro z79α S hc hk hp
     have e11 : S 11 = false := (not_yet (j := 11) (q := 2) hc hk rfl rfl rfl rfl)
     refine eq_H (H' := [.vec z78α.1 (q0) z78.2.1.span.was.cells, .obj true z21 z22 (.dat (q2 z78α.1)) z78.2.1, .vec z78α.2.1 (q0) z78.2.2.1.span.was.cells, .obj true z16 z17 (.dat (q1 z78α.2.1)) z78.2.2.1, .vec z78α.2.2.1 (q0) z78.2.2.2.1.span.was.cells, .obj true z11 z12 (.dat (q2 z78α.2.2.1)) z78.2.2.2.1, .vec z78α.2.2.2 (q0) z78.2.2.2.2.span.was.cells, .obj true z6 z7 (.dat (q1 z78α.2.2.2)) z78.2.2.2.2, .gone]) (by first | exact hB z79α S false e11 | (have q := hB z79α S false e11; simp only [cond_true, cond_false] at q; exact q)) ?_
     refine o_load type4 rfl rfl guard_none (look_d rfl rfl (pr hp 0 rfl rfl)) (fun _ => rfl) ?_
     apply h_endA (α := z79α) z79α
     ·exact (by (iterate 12 apply EqOn.same); exact .nil)
     ·exact rfl
     ·exact rfl
     ·exact rfl
     ·exact hB z79α (fun k => S k || Nat.beq k 10) false (or_f e11 rfl)
    ·intro z79α S hc hk hp
     refine eq_H (H' := [.vec z78α.1 (q0) z78.2.1.span.was.cells, .obj true z21 z22 (.dat (q2 z78α.1)) z78.2.1, .vec z78α.2.1 (q0) z78.2.2.1.span.was.cells, .obj true z16 z17 (.dat (q1 z78α.2.1)) z78.2.2.1, .vec z78α.2.2.1 (q0) z78.2.2.2.1.span.was.cells, .obj true z11 z12 (.dat (q2 z78α.2.2.1)) z78.2.2.2.1, .vec z78α.2.2.2 (q0) z78.2.2.2.2.span.was.cells, .obj true z6 z7 (.dat (q1 z78α.2.2.2)) z78.2.2.2.2, .gone]) (by first | exact hB z79α S false hk | (have q := hB z79α S false hk; simp only [cond_true, cond_false] at q; exact q)) ?_
     refine o_from (bind_eqO h_z82) ?_
     refine o_weak (H' := [.vec z78α.2.2.2 (q0) z78.2.2.2.2.span.was.cells, .obj true z6 z7 (.dat (q1 z78α.2.2.2)) z78.2.2.2.2] ++ ([] ++ [.vec z78α.1 (q0) z78.2.1.span.was.cells, .obj true z21 z22 (.dat (q2 z78α.1)) z78.2.1, .vec z78α.2.1 (q0) z78.2.2.1.span.was.cells, .obj true z16 z17 (.dat (q1 z78α.2.1)) z78.2.2.1, .vec z78α.2.2.1 (q0) z78.2.2.2.1.span.was.cells, .obj true z11 z12 (.dat (q2 z78α.2.2.1)) z78.2.2.2.1, .gone])) (sub_pick [6, 7, 0, 1, 2, 3, 4, 5, 8] rfl rfl) ?_
     refine o_callU rfl rfl rfl rfl rfl callable34 (looks_cons (look_d rfl rfl (pr hp 0 rfl rfl)) (fun _ => rfl) (looks_cons (look_d rfl rfl (pr hp 1 rfl rfl)) (fun _ => rfl) (looks_cons (look_d rfl rfl (pr hp 2 rfl rfl)) (fun _ => rfl) (looks_nil)))) .nil (window_Once_Step_ok _ _ _ z78.2.2.2.2 z80.At z81.F) (fun _ _ => (wr_v (wr_c wr_n))) (fun z83α => o_eqOH ?_)
     refine o_weak (H' := [.vec z83α (q0) z82.2.span.was.cells, .obj true z6 z7 (.dat (q1 z83α)) z82.2, .vec z78α.1 (q0) z78.2.1.span.was.cells, .obj true z21 z22 (.dat (q2 z78α.1)) z78.2.1, .vec z78α.2.1 (q0) z78.2.2.1.span.was.cells, .obj true z16 z17 (.dat (q1 z78α.2.1)) z78.2.2.1, .vec z78α.2.2.1 (q0) z78.2.2.2.1.span.was.cells, .obj true z11 z12 (.dat (q2 z78α.2.2.1)) z78.2.2.2.1, .gone]) (sub_pick [0, 1, 2, 3, 4, 5, 6, 7, 8] rfl rfl) ?_
     refine o_weak sub_gone ?_
     refine o_weak (H' := [.vec z78α.1 (q0) z78.2.1.span.was.cells, .obj true z21 z22 (.dat (q2 z78α.1)) z78.2.1, .vec z78α.2.1 (q0) z78.2.2.1.span.was.cells, .obj true z16 z17 (.dat (q1 z78α.2.1)) z78.2.2.1, .vec z78α.2.2.1 (q0) z78.2.2.2.1.span.was.cells, .obj true z11 z12 (.dat (q2 z78α.2.2.1)) z78.2.2.2.1, .gone, .obj true z6 z7 (.dat (q1 z83α)) z82.2, .vec z83α (q0) z82.2.span.was.cells]) (sub_pick [3, 4, 5, 6, 7, 8, 0, 2, 1] rfl rfl) ?_
     apply h_endA (α := z79α) z83α
     ·exact (by (iterate 12 apply EqOn.same); exact .nil)
     ·exact rfl
     ·exact rfl
     ·exact rfl
     ·exact hB z83α (fun k => S k || Nat.beq k 11) true (or_i rfl)
    refine den_weak (H' := [.vec z78α.1 (q0) z78.2.1.span.was.cells, .obj true z21 z22 (.dat (q2 z78α.1)) z78.2.1, .vec z78α.2.1 (q0) z78.2.2.1.span.was.cells, .obj true z16 z17 (.dat (q1 z78α.2.1)) z78.2.2.1, .vec z78α.2.2.1 (q0) z78.2.2.2.1.span.was.cells, .obj true z11 z12 (.dat (q2 z78α.2.2.1)) z78.2.2.2.1, .obj true z6 z7 (.dat (q1 z79α)) z82.2, .vec z79α (q0) z82.2.span.was.cells]) (sub_pick [0, 1, 2, 3, 4, 5, 7, 8] rfl rfl) ?_
    refine den_seq ?_
    refine den_open (fun z85 h_z85 => ?_)
    refine den_open (fun z86 h_z86 => ?_)
    refine den_open (fun z87 h_z87 => ?_)
    have hB : ∀ (z84α : Value) (S : Nat → Bool) (b11 : Bool), S 11 = b11 → (([.vec z78α.1 (q0) z78.2.1.span.was.cells, .obj true z21 z22 (.dat (q2 z78α.1)) z78.2.1, (cond (S 11) (.gone) (.vec z78α.2.1 (q0) z78.2.2.1.span.was.cells)), (cond (S 11) (.obj true z16 z17 (.dat (q1 z84α)) z87.2) (.obj true z16 z17 (.dat (q1 z78α.2.1)) z78.2.2.1)), .vec z78α.2.2.1 (q0) z78.2.2.2.1.span.was.cells, .obj true z11 z12 (.dat (q2 z78α.2.2.1)) z78.2.2.2.1, .obj true z6 z7 (.dat (q1 z79α)) z82.2, .vec z79α (q0) z82.2.span.was.cells, (cond (S 11) (.vec (z84α) (q0) z87.2.span.was.cells) (.gone))] : List Go.Eng.Item)) = ([.vec z78α.1 (q0) z78.2.1.span.was.cells, .obj true z21 z22 (.dat (q2 z78α.1)) z78.2.1, (cond b11 (.gone) (.vec z78α.2.1 (q0) z78.2.2.1.span.was.cells)), (cond b11 (.obj true z16 z17 (.dat (q1 z84α)) z87.2) (.obj true z16 z17 (.dat (q1 z78α.2.1)) z78.2.2.1)), .vec z78α.2.2.1 (q0) z78.2.2.2.1.span.was.cells, .obj true z11 z12 (.dat (q2 z78α.2.2.1)) z78.2.2.2.1, .obj true z6 z7 (.dat (q1 z79α)) z82.2, .vec z79α (q0) z82.2.span.was.cells, (cond b11 (.vec (z84α) (q0) z87.2.span.was.cells) (.gone))] : List Go.Eng.Item) := fun z84α S b11 h11 => by subst h11; rfl
    refine den_weak sub_gone ?_
    refine den_weak (sub_pick (H' := [.vec z78α.1 (q0) z78.2.1.span.was.cells, .obj true z21 z22 (.dat (q2 z78α.1)) z78.2.1, .vec z78α.2.1 (q0) z78.2.2.1.span.was.cells, .obj true z16 z17 (.dat (q1 z78α.2.1)) z78.2.2.1, .vec z78α.2.2.1 (q0) z78.2.2.2.1.span.was.cells, .obj true z11 z12 (.dat (q2 z78α.2.2.1)) z78.2.2.2.1, .obj true z6 z7 (.dat (q1 z79α)) z82.2, .vec z79α (q0) z82.2.span.was.cells, .gone]) [1, 2, 3, 4, 5, 6, 7, 8, 0] rfl rfl) ?_
    refine den_drawA (A := Value) (H' := fun z84α => [.vec z78α.1 (q0) z78.2.1.span.was.cells, .obj true z21 z22 (.dat (q2 z78α.1)) z78.2.1, .gone, .obj true z16 z17 (.dat (q1 z84α)) z87.2, .vec z78α.2.2.1 (q0) z78.2.2.2.1.span.was.cells, .obj true z11 z12 (.dat (q2 z78α.2.2.1)) z78.2.2.2.1, .obj true z6 z7 (.dat (q1 z79α)) z82.2, .vec z79α (q0) z82.2.span.was.cells, .vec (z84α) (q0) z87.2.span.was.cells]) (fun z84α => [(57, ⟨Rep.addr, (z16, z17), true⟩), (58, ⟨(T_law16_Step_rep).slice, z2, true⟩), (59, ⟨Rep.int .i64, z78.1, true⟩), (60, ⟨(T_law16_Step_rep).ptrTo, z85, true⟩), (61, ⟨(Rep.int .i64).ptrTo, z85.At, true⟩), (62, ⟨Rep.int .i64, z85.At, true⟩), (63, ⟨(T_law16_Step_rep).slice, z2, true⟩), (64, ⟨Rep.int .i64, z78.1, true⟩), (65, ⟨(T_law16_Step_rep).ptrTo, z86, true⟩), (66, ⟨(Rep.bool).ptrTo, z86.F, true⟩), (67, ⟨Rep.bool, z86.F, true⟩), (68, ⟨Rep.bool, z87.1, true⟩)]) (fun z84α S => [.vec z78α.1 (q0) z78.2.1.span.was.cells, .obj true z21 z22 (.dat (q2 z78α.1)) z78.2.1, (cond (S 11) (.gone) (.vec z78α.2.1 (q0) z78.2.2.1.span.was.cells)), (cond (S 11) (.obj true z16 z17 (.dat (q1 z84α)) z87.2) (.obj true z16 z17 (.dat (q1 z78α.2.1)) z78.2.2.1)), .vec z78α.2.2.1 (q0) z78.2.2.2.1.span.was.cells, .obj true z11 z12 (.dat (q2 z78α.2.2.1)) z78.2.2.2.1, .obj true z6 z7 (.dat (q1 z79α)) z82.2, .vec z79α (q0) z82.2.span.was.cells, (cond (S 11) (.vec (z84α) (q0) z87.2.span.was.cells) (.gone))]) (Value.slice none 0 0) mixed (fun _ => rfl) rfl rfl (fun z84α S hS => hB z84α S true (hS 11 (by decide))) ⟨?_, ?_, ?_, ?_, ?_, ?_, ?_, ?_, ?_, ?_, ?_, ?_, trivial⟩ (fun z84α => ?_)
    ·intro z84α S hc hk hp
     have e11 : S 11 = false := (not_yet (j := 11) (q := 0) hc hk rfl rfl rfl rfl)
     refine eq_H (H' := [.vec z78α.1 (q0) z78.2.1.span.was.cells, .obj true z21 z22 (.dat (q2 z78α.1)) z78.2.1, .vec z78α.2.1 (q0) z78.2.2.1.span.was.cells, .obj true z16 z17 (.dat (q1 z78α.2.1)) z78.2.2.1, .vec z78α.2.2.1 (q0) z78.2.2.2.1.span.was.cells, .obj true z11 z12 (.dat (q2 z78α.2.2.1)) z78.2.2.2.1, .obj true z6 z7 (.dat (q1 z79α)) z82.2, .vec z79α (q0) z82.2.span.was.cells, .gone]) (by first | exact hB z84α S false e11 | (have q := hB z84α S false e11; simp only [cond_true, cond_false] at q; exact q)) ?_
     refine o_move rfl rfl guard_none (look_o rfl rfl) (fun _ => rfl) ?_
     apply h_endA (α := z84α) z84α
     ·exact (by (iterate 12 apply EqOn.same); exact .nil)
     ·exact rfl
     ·exact rfl
     ·exact rfl
     ·exact hB z84α (fun k => S k || Nat.beq k 0) false (or_f e11 rfl)
    ·intro z84α S hc hk hp
     have e11 : S 11 = false := (not_yet (j := 11) (q := 1) hc (not_yet (j := 5) (q := 0) hc (not_yet (j := 4) (q := 0) hc (not_yet (j := 3) (q := 0) hc hk rfl rfl rfl rfl) rfl rfl rfl rfl) rfl rfl rfl rfl) rfl rfl rfl rfl)
     refine eq_H (H' := [.vec z78α.1 (q0) z78.2.1.span.was.cells, .obj true z21 z22 (.dat (q2 z78α.1)) z78.2.1, .vec z78α.2.1 (q0) z78.2.2.1.span.was.cells, .obj true z16 z17 (.dat (q1 z78α.2.1)) z78.2.2.1, .vec z78α.2.2.1 (q0) z78.2.2.2.1.span.was.cells, .obj true z11 z12 (.dat (q2 z78α.2.2.1)) z78.2.2.2.1, .obj true z6 z7 (.dat (q1 z79α)) z82.2, .vec z79α (q0) z82.2.span.was.cells, .gone]) (by first | exact hB z84α S false e11 | (have q := hB z84α S false e11; simp only [cond_true, cond_false] at q; exact q)) ?_
     refine o_move rfl rfl guard_none (look_o rfl rfl) (fun _ => rfl) ?_
     apply h_endA (α := z84α) z84α
     ·exact (by (iterate 12 apply EqOn.same); exact .nil)
     ·exact rfl
     ·exact rfl
     ·exact rfl
     ·exact hB z84α (fun k => S k || Nat.beq k 1) false (or_f e11 rfl)
    ·intro z84α S hc hk hp
     have e11 : S 11 = false := (not_yet (j := 11) (q := 1) hc (not_yet (j := 5) (q := 0) hc (not_yet (j := 4) (q := 0) hc (not_yet (j := 3) (q := 1) hc hk rfl rfl rfl rfl) rfl rfl rfl rfl) rfl rfl rfl rfl) rfl rfl rfl rfl)
     refine eq_H (H' := [.vec z78α.1 (q0) z78.2.1.span.was.cells, .obj true z21 z22 (.dat (q2 z78α.1)) z78.2.1, .vec z78α.2.1 (q0) z78.2.2.1.span.was.cells, .obj true z16 z17 (.dat (q1 z78α.2.1)) z78.2.2.1, .vec z78α.2.2.1 (q0) z78.2.2.2.1.span.was.cells, .obj true z11 z12 (.dat (q2 z78α.2.2.1)) z78.2.2.2.1, .obj true z6 z7 (.dat (q1 z79α)) z82.2, .vec z79α (q0) z82.2.span.was.cells, .gone]) (by first | exact hB z84α S false e11 | (have q := hB z84α S false e11; simp only [cond_true, cond_false] at q; exact q)) ?_
     refine o_move rfl rfl guard_none (look_o rfl rfl) (fun _ => rfl) ?_
     apply h_endA (α := z84α) z84α
     ·exact (by (iterate 12 apply EqOn.same); exact .nil)
     ·exact rfl
     ·exact rfl
     ·exact rfl
     ·exact hB z84α (fun k => S k || Nat.beq k 2) false (or_f e11 rfl)
    ·intro z84α S hc hk hp
     have e11 : S 11 = false := (not_yet (j := 11) (q := 1) hc (not_yet (j := 5) (q := 0) hc (not_yet (j := 4) (q := 0) hc hk rfl rfl rfl rfl) rfl rfl rfl rfl) rfl rfl rfl rfl)
     refine eq_H (H' := [.vec z78α.1 (q0) z78.2.1.span.was.cells, .obj true z21 z22 (.dat (q2 z78α.1)) z78.2.1, .vec z78α.2.1 (q0) z78.2.2.1.span.was.cells, .obj true z16 z17 (.dat (q1 z78α.2.1)) z78.2.2.1, .vec z78α.2.2.1 (q0) z78.2.2.2.1.span.was.cells, .obj true z11 z12 (.dat (q2 z78α.2.2.1)) z78.2.2.2.1, .obj true z6 z7 (.dat (q1 z79α)) z82.2, .vec z79α (q0) z82.2.span.was.cells, .gone]) (by first | exact hB z84α S false e11 | (have q := hB z84α S false e11; simp only [cond_true, cond_false] at q; exact q)) ?_
     refine o_from (bind_eqO h_z85) ?_
     refine o_iaddr Try.underlying55 type67 rfl rfl (look_d rfl rfl (pr hp 0 rfl rfl)) (look_d rfl rfl (pr hp 1 rfl rfl)) rfl rfl (o_eqO ?_)
     apply h_endA (α := z84α) z84α
     ·exact (by (iterate 12 apply EqOn.same); exact .nil)
     ·exact rfl
     ·exact rfl
     ·exact rfl
     ·exact hB z84α (fun k => S k || Nat.beq k 3) false (or_f e11 rfl)
    ·intro z84α S hc hk hp
     have e11 : S 11 = false := (not_yet (j := 11) (q := 1) hc (not_yet (j := 5) (q := 0) hc hk rfl rfl rfl rfl) rfl rfl rfl rfl)
     refine eq_H (H' := [.vec z78α.1 (q0) z78.2.1.span.was.cells, .obj true z21 z22 (.dat (q2 z78α.1)) z78.2.1, .vec z78α.2.1 (q0) z78.2.2.1.span.was.cells, .obj true z16 z17 (.dat (q1 z78α.2.1)) z78.2.2.1, .vec z78α.2.2.1 (q0) z78.2.2.2.1.span.was.cells, .obj true z11 z12 (.dat (q2 z78α.2.2.1)) z78.2.2.2.1, .obj true z6 z7 (.dat (q1 z79α)) z82.2, .vec z79α (q0) z82.2.span.was.cells, .gone]) (by first | exact hB z84α S false e11 | (have q := hB z84α S false e11; simp only [cond_true, cond_false] at q; exact q)) ?_
     refine o_fptr field67_0 type2 (by decide) T_law16_Step_foc0 rfl rfl guard_none (look_d rfl rfl (pr hp 0 rfl rfl)) (fun _ => rfl) ?_
     apply h_endA (α := z84α) z84α
     ·exact (by (iterate 12 apply EqOn.same); exact .nil)
     ·exact rfl
     ·exact rfl
     ·exact rfl
     ·exact hB z84α (fun k => S k || Nat.beq k 4) false (or_f e11 rfl)
    ·intro z84α S hc hk hp
     have e11 : S 11 = false := (not_yet (j := 11) (q := 1) hc hk rfl rfl rfl rfl)
     refine eq_H (H' := [.vec z78α.1 (q0) z78.2.1.span.was.cells, .obj true z21 z22 (.dat (q2 z78α.1)) z78.2.1, .vec z78α.2.1 (q0) z78.2.2.1.span.was.cells, .obj true z16 z17 (.dat (q1 z78α.2.1)) z78.2.2.1, .vec z78α.2.2.1 (q0) z78.2.2.2.1.span.was.cells, .obj true z11 z12 (.dat (q2 z78α.2.2.1)) z78.2.2.2.1, .obj true z6 z7 (.dat (q1 z79α)) z82.2, .vec z79α (q0) z82.2.span.was.cells, .gone]) (by first | exact hB z84α S false e11 | (have q := hB z84α S false e11; simp only [cond_true, cond_false] at q; exact q)) ?_
     refine o_load type2 rfl rfl guard_none (look_d rfl rfl (pr hp 0 rfl rfl)) (fun _ => rfl) ?_
     apply h_endA (α := z84α) z84α
     ·exact (by (iterate 12 apply EqOn.same); exact .nil)
     ·exact rfl
     ·exact rfl
     ·exact rfl
     ·exact hB z84α (fun k => S k || Nat.beq k 5) false (or_f e11 rfl)
    ·intro z84α S hc hk hp
     have e11 : S 11 = false := (not_yet (j := 11) (q := 2) hc (not_yet (j := 10) (q := 0) hc (not_yet (j := 9) (q := 0) hc (not_yet (j := 8) (q := 0) hc hk rfl rfl rfl rfl) rfl rfl rfl rfl) rfl rfl rfl rfl) rfl rfl rfl rfl)
     refine eq_H (H' := [.vec z78α.1 (q0) z78.2.1.span.was.cells, .obj true z21 z22 (.dat (q2 z78α.1)) z78.2.1, .vec z78α.2.1 (q0) z78.2.2.1.span.was.cells, .obj true z16 z17 (.dat (q1 z78α.2.1)) z78.2.2.1, .vec z78α.2.2.1 (q0) z78.2.2.2.1.span.was.cells, .obj true z11 z12 (.dat (q2 z78α.2.2.1)) z78.2.2.2.1, .obj true z6 z7 (.dat (q1 z79α)) z82.2, .vec z79α (q0) z82.2.span.was.cells, .gone]) (by first | exact hB z84α S false e11 | (have q := hB z84α S false e11; simp only [cond_true, cond_false] at q; exact q)) ?_
     refine o_move rfl rfl guard_none (look_o rfl rfl) (fun _ => rfl) ?_
     apply h_endA (α := z84α) z84α
     ·exact (by (iterate 12 apply EqOn.same); exact .nil)
     ·exact rfl
     ·exact rfl
     ·exact rfl
     ·exact hB z84α (fun k => S k || Nat.beq k 6) false (or_f e11 rfl)
    ·intro z84α S hc hk hp
     have e11 : S 11 = false := (not_yet (j := 11) (q := 2) hc (not_yet (j := 10) (q := 0) hc (not_yet (j := 9) (q := 0) hc (not_yet (j := 8) (q := 1) hc hk rfl rfl rfl rfl) rfl rfl rfl rfl) rfl rfl rfl rfl) rfl rfl rfl rfl)
     refine eq_H (H' := [.vec z78α.1 (q0) z78.2.1.span.was.cells, .obj true z21 z22 (.dat (q2 z78α.1)) z78.2.1, .vec z78α.2.1 (q0) z78.2.2.1.span.was.cells, .obj true z16 z17 (.dat (q1 z78α.2.1)) z78.2.2.1, .vec z78α.2.2.1 (q0) z78.2.2.2.1.span.was.cells, .obj true z11 z12 (.dat (q2 z78α.2.2.1)) z78.2.2.2.1, .obj true z6 z7 (.dat (q1 z79α)) z82.2, .vec z79α (q0) z82.2.span.was.cells, .gone]) (by first | exact hB z84α S false e11 | (have q := hB z84α S false e11; simp only [cond_true, cond_false] at q; exact q)) ?_
     refine o_move rfl rfl guard_none (look_o rfl rfl) (fun _ => rfl) ?_
     apply h_endA (α := z84α) z84α
     ·exact (by (iterate 12 apply EqOn.same); exact .nil)
     ·exact rfl
     ·exact rfl
     ·exact rfl
     ·exact hB z84α (fun k => S k || Nat.beq k 7) false (or_f e11 rfl)
    ·intro z84α S hc hk hp
     have e11 : S 11 = false := (not_yet (j := 11) (q := 2) hc (not_yet (j := 10) (q := 0) hc (not_yet (j := 9) (q := 0) hc hk rfl rfl rfl rfl) rfl rfl rfl rfl) rfl rfl rfl rfl)
     refine eq_H (H' := [.vec z78α.1 (q0) z78.2.1.span.was.cells, .obj true z21 z22 (.dat (q2 z78α.1)) z78.2.1, .vec z78α.2.1 (q0) z78.2.2.1.span.was.cells, .obj true z16 z17 (.dat (q1 z78α.2.1)) z78.2.2.1, .vec z78α.2.2.1 (q0) z78.2.2.2.1.span.was.cells, .obj true z11 z12 (.dat (q2 z78α.2.2.1)) z78.2.2.2.1, .obj true z6 z7 (.dat (q1 z79α)) z82.2, .vec z79α (q0) z82.2.span.was.cells, .gone]) (by first | exact hB z84α S false e11 | (have q := hB z84α S false e11; simp only [cond_true, cond_false] at q; exact q)) ?_
     refine o_from (bind_eqO h_z86) ?_
     refine o_iaddr Try.underlying55 type67 rfl rfl (look_d rfl rfl (pr hp 0 rfl rfl)) (look_d rfl rfl (pr hp 1 rfl rfl)) rfl rfl (o_eqO ?_)
     apply h_endA (α := z84α) z84α
     ·exact (by (iterate 12 apply EqOn.same); exact .nil)
     ·exact rfl
     ·exact rfl
     ·exact rfl
     ·exact hB z84α (fun k => S k || Nat.beq k 8) false (or_f e11 rfl)
    ·intro z84α S hc hk hp
     have e11 : S 11 = false := (not_yet (j := 11) (q := 2) hc (not_yet (j := 10) (q := 0) hc hk rfl rfl rfl rfl) rfl rfl rfl rfl)
     refine eq_H (H' := [.vec z78α.1 (q0) z78.2.1.span.was.cells, .obj true z21 z22 (.dat (q2 z78α.1)) z78.2.1, .vec z78α.2.1 (q0) z78.2.2.1.span.was.cells, .obj true z16 z17 (.dat (q1 z78α.2.1)) z78.2.2.1, .vec z78α.2.2.1 (q0) z78.2.2.2.1.span.was.cells, .obj true z11 z12 (.dat (q2 z78α.2.2.1)) z78.2.2.2.1, .obj true z6 z7 (.dat (q1 z79α)) z82.2, .vec z79α (q0) z82.2.span.was.cells, .gone]) (by first | exact hB z84α S false e11 | (have q := hB z84α S false e11; simp only [cond_true, cond_false] at q; exact q)) ?_
     refine o_fptr field67_1 type4 (by decide) T_law16_Step_foc1 rfl rfl guard_none (look_d rfl rfl (pr hp 0 rfl rfl)) (fun _ => rfl) ?_
     apply h_endA (α := z84α) z84α
     ·exact (by (iterate 12 apply EqOn.same); exact .nil)
     ·exact rfl
     ·exact rfl
     ·exact rfl
     ·exact hB z84α (fun k => S k || Nat.beq k 9) false (or_f e11 rfl)
    ·intro z84α S hc hk hp
     have e11 : S 11 = false := (not_yet (j := 11) (q := 2) hc hk rfl rfl rfl rfl)
     refine eq_H (H' := [.vec z78α.1 (q0) z78.2.1.span.was.cells, .obj true z21 z22 (.dat (q2 z78α.1)) z78.2.1, .vec z78α.2.1 (q0) z78.2.2.1.span.was.cells, .obj true z16 z17 (.dat (q1 z78α.2.1)) z78.2.2.1, .vec z78α.2.2.1 (q0) z78.2.2.2.1.span.was.cells, .obj true z11 z12 (.dat (q2 z78α.2.2.1)) z78.2.2.2.1, .obj true z6 z7 (.dat (q1 z79α)) z82.2, .vec z79α (q0) z82.2.span.was.cells, .gone]) (by first | exact hB z84α S false e11 | (have q := hB z84α S false e11; simp only [cond_true, cond_false] at q; exact q)) ?_
     refine o_load type4 rfl rfl guard_none (look_d rfl rfl (pr hp 0 rfl rfl)) (fun _ => rfl) ?_
     apply h_endA (α := z84α) z84α
     ·exact (by (iterate 12 apply EqOn.same); exact .nil)
     ·exact rfl
     ·exact rfl
     ·exact rfl
     ·exact hB z84α (fun k => S k || Nat.beq k 10) false (or_f e11 rfl)
    ·intro z84α S hc hk hp
     refine eq_H (H' := [.vec z78α.1 (q0) z78.2.1.span.was.cells, .obj true z21 z22 (.dat (q2 z78α.1)) z78.2.1, .vec z78α.2.1 (q0) z78.2.2.1.span.was.cells, .obj true z16 z17 (.dat (q1 z78α.2.1)) z78.2.2.1, .vec z78α.2.2.1 (q0) z78.2.2.2.1.span.was.cells, .obj true z11 z12 (.dat (q2 z78α.2.2.1)) z78.2.2.2.1, .obj true z6 z7 (.dat (q1 z79α)) z82.2, .vec z79α (q0) z82.2.span.was.cells, .gone]) (by first | exact hB z84α S false hk | (have q := hB z84α S false hk; simp only [cond_true, cond_false] at q; exact q)) ?_
     refine o_from (bind_eqO h_z87) ?_
     refine o_weak (H' := [.vec z78α.2.1 (q0) z78.2.2.1.span.was.cells, .obj true z16 z17 (.dat (q1 z78α.2.1)) z78.2.2.1] ++ ([] ++ [.vec z78α.1 (q0) z78.2.1.span.was.cells, .obj true z21 z22 (.dat (q2 z78α.1)) z78.2.1, .vec z78α.2.2.1 (q0) z78.2.2.2.1.span.was.cells, .obj true z11 z12 (.dat (q2 z78α.2.2.1)) z78.2.2.2.1, .obj true z6 z7 (.dat (q1 z79α)) z82.2, .vec z79α (q0) z82.2.span.was.cells, .gone])) (sub_pick [2, 3, 0, 1, 4, 5, 6, 7, 8] rfl rfl) ?_
     refine o_callU rfl rfl rfl rfl rfl callable34 (looks_cons (look_d rfl rfl (pr hp 0 rfl rfl)) (fun _ => rfl) (looks_cons (look_d rfl rfl (pr hp 1 rfl rfl)) (fun _ => rfl) (looks_cons (look_d rfl rfl (pr hp 2 rfl rfl)) (fun _ => rfl) (looks_nil)))) .nil (window_Once_Step_ok _ _ _ z78.2.2.1 z85.At z86.F) (fun _ _ => (wr_v (wr_c wr_n))) (fun z88α => o_eqOH ?_)
     refine o_weak (H' := [.vec z88α (q0) z87.2.span.was.cells, .obj true z16 z17 (.dat (q1 z88α)) z87.2, .vec z78α.1 (q0) z78.2.1.span.was.cells, .obj true z21 z22 (.dat (q2 z78α.1)) z78.2.1, .vec z78α.2.2.1 (q0) z78.2.2.2.1.span.was.cells, .obj true z11 z12 (.dat (q2 z78α.2.2.1)) z78.2.2.2.1, .obj true z6 z7 (.dat (q1 z79α)) z82.2, .vec z79α (q0) z82.2.span.was.cells, .gone]) (sub_pick [0, 1, 2, 3, 4, 5, 6, 7, 8] rfl rfl) ?_
     refine o_weak sub_gone ?_
     refine o_weak (H' := [.vec z78α.1 (q0) z78.2.1.span.was.cells, .obj true z21 z22 (.dat (q2 z78α.1)) z78.2.1, .gone, .obj true z16 z17 (.dat (q1 z88α)) z87.2, .vec z78α.2.2.1 (q0) z78.2.2.2.1.span.was.cells, .obj true z11 z12 (.dat (q2 z78α.2.2.1)) z78.2.2.2.1, .obj true z6 z7 (.dat (q1 z79α)) z82.2, .vec z79α (q0) z82.2.span.was.cells, .vec z88α (q0) z87.2.span.was.cells]) (sub_pick [3, 4, 0, 2, 5, 6, 7, 8, 1] rfl rfl) ?_
     apply h_endA (α := z84α) z88α
     ·exact (by (iterate 12 apply EqOn.same); exact .nil)
     ·exact rfl
     ·exact rfl
     ·exact rfl
     ·exact hB z88α (fun k => S k || Nat.beq k 11) true (or_i rfl)
    refine den_weak (H' := [.vec z78α.1 (q0) z78.2.1.span.was.cells, .obj true z21 z22 (.dat (q2 z78α.1)) z78.2.1, .obj true z16 z17 (.dat (q1 z84α)) z87.2, .vec z78α.2.2.1 (q0) z78.2.2.2.1.span.was.cells, .obj true z11 z12 (.dat (q2 z78α.2.2.1)) z78.2.2.2.1, .obj true z6 z7 (.dat (q1 z79α)) z82.2, .vec z79α (q0) z82.2.span.was.cells, .vec z84α (q0) z87.2.span.was.cells]) (sub_pick [0, 1, 3, 4, 5, 6, 7, 8] rfl rfl) ?_
    refine den_seq ?_
    refine den_open (fun z90 h_z90 => ?_)
    refine den_open (fun z91 h_z91 => ?_)
    refine den_open (fun z92 h_z92 => ?_)
    refine den_open (fun z93 h_z93 => ?_)
    have hB : ∀ (z89α : Value) (S : Nat → Bool) (b16 : Bool), S 16 = b16 → (([.vec z78α.1 (q0) z78.2.1.span.was.cells, .obj true z21 z22 (.dat (q2 z78α.1)) z78.2.1, .obj true z16 z17 (.dat (q1 z84α)) z87.2, (cond (S 16) (.gone) (.vec z78α.2.2.1 (q0) z78.2.2.2.1.span.was.cells)), (cond (S 16) (.obj true z11 z12 (.dat (q2 z89α)) z93.2) (.obj true z11 z12 (.dat (q2 z78α.2.2.1)) z78.2.2.2.1)), .obj true z6 z7 (.dat (q1 z79α)) z82.2, .vec z79α (q0) z82.2.span.was.cells, .vec z84α (q0) z87.2.span.was.cells, (cond (S 16) (.vec (z89α) (q0) z93.2.span.was.cells) (.gone))] : List Go.Eng.Item)) = ([.vec z78α.1 (q0) z78.2.1.span.was.cells, .obj true z21 z22 (.dat (q2 z78α.1)) z78.2.1, .obj true z16 z17 (.dat (q1 z84α)) z87.2, (cond b16 (.gone) (.vec z78α.2.2.1 (q0) z78.2.2.2.1.span.was.cells)), (cond b16 (.obj true z11 z12 (.dat (q2 z89α)) z93.2) (.obj true z11 z12 (.dat (q2 z78α.2.2.1)) z78.2.2.2.1)), .obj true z6 z7 (.dat (q1 z79α)) z82.2, .vec z79α (q0) z82.2.span.was.cells, .vec z84α (q0) z87.2.span.was.cells, (cond b16 (.vec (z89α) (q0) z93.2.span.was.cells) (.gone))] : List Go.Eng.Item) := fun z89α S b16 h16 => by subst h16; rfl
    refine den_weak sub_gone ?_
    refine den_weak (sub_pick (H' := [.vec z78α.1 (q0) z78.2.1.span.was.cells, .obj true z21 z22 (.dat (q2 z78α.1)) z78.2.1, .obj true z16 z17 (.dat (q1 z84α)) z87.2, .vec z78α.2.2.1 (q0) z78.2.2.2.1.span.was.cells, .obj true z11 z12 (.dat (q2 z78α.2.2.1)) z78.2.2.2.1, .obj true z6 z7 (.dat (q1 z79α)) z82.2, .vec z79α (q0) z82.2.span.was.cells, .vec z84α (q0) z87.2.span.was.cells, .gone]) [1, 2, 3, 4, 5, 6, 7, 8, 0] rfl rfl) ?_
    refine den_drawA (A := Value) (H' := fun z89α => [.vec z78α.1 (q0) z78.2.1.span.was.cells, .obj true z21 z22 (.dat (q2 z78α.1)) z78.2.1, .obj true z16 z17 (.dat (q1 z84α)) z87.2, .gone, .obj true z11 z12 (.dat (q2 z89α)) z93.2, .obj true z6 z7 (.dat (q1 z79α)) z82.2, .vec z79α (q0) z82.2.span.was.cells, .vec z84α (q0) z87.2.span.was.cells, .vec (z89α) (q0) z93.2.span.was.cells]) (fun z89α => [(69, ⟨Rep.addr, (z11, z12), true⟩), (70, ⟨(T_law16_Step_rep).slice, z2, true⟩), (71, ⟨Rep.int .i64, z78.1, true⟩), (72, ⟨(T_law16_Step_rep).ptrTo, z90, true⟩), (73, ⟨(Rep.int .i64).ptrTo, z90.At, true⟩), (74, ⟨Rep.int .i64, z90.At, true⟩), (75, ⟨(T_law16_Step_rep).slice, z2, true⟩), (76, ⟨Rep.int .i64, z78.1, true⟩), (77, ⟨(T_law16_Step_rep).ptrTo, z91, true⟩), (78, ⟨(Rep.bool).ptrTo, z91.F, true⟩), (79, ⟨Rep.bool, z91.F, true⟩), (80, ⟨(T_law16_Step_rep).slice, z2, true⟩), (81, ⟨Rep.int .i64, z78.1, true⟩), (82, ⟨(T_law16_Step_rep).ptrTo, z92, true⟩), (83, ⟨(Rep.bool).ptrTo, z92.G, true⟩), (84, ⟨Rep.bool, z92.G, true⟩), (85, ⟨Rep.bool, z93.1, true⟩)]) (fun z89α S => [.vec z78α.1 (q0) z78.2.1.span.was.cells, .obj true z21 z22 (.dat (q2 z78α.1)) z78.2.1, .obj true z16 z17 (.dat (q1 z84α)) z87.2, (cond (S 16) (.gone) (.vec z78α.2.2.1 (q0) z78.2.2.2.1.span.was.cells)), (cond (S 16) (.obj true z11 z12 (.dat (q2 z89α)) z93.2) (.obj true z11 z12 (.dat (q2 z78α.2.2.1)) z78.2.2.2.1)), .obj true z6 z7 (.dat (q1 z79α)) z82.2, .vec z79α (q0) z82.2.span.was.cells, .vec z84α (q0) z87.2.span.was.cells, (cond (S 16) (.vec (z89α) (q0) z93.2.span.was.cells) (.gone))]) (Value.slice none 0 0) mixed (fun _ => rfl) rfl rfl (fun z89α S hS => hB z89α S true (hS 16 (by decide))) ⟨?_, ?_, ?_, ?_, ?_, ?_, ?_, ?_, ?_, ?_, ?_, ?_, ?_, ?_, ?_, ?_, ?_, trivial⟩ (fun z89α => ?_)
    ·intro z89α S hc hk hp
     have e16 : S 16 = false := (not_yet (j := 16) (q := 0) hc hk rfl rfl rfl rfl)
     refine eq_H (H' := [.vec z78α.1 (q0) z78.2.1.span.was.cells, .obj true z21 z22 (.dat (q2 z78α.1)) z78.2.1, .obj true z16 z17 (.dat (q1 z84α)) z87.2, .vec z78α.2.2.1 (q0) z78.2.2.2.1.span.was.cells, .obj true z11 z12 (.dat (q2 z78α.2.2.1)) z78.2.2.2.1, .obj true z6 z7 (.dat (q1 z79α)) z82.2, .vec z79α (q0) z82.2.span.was.cells, .vec z84α (q0) z87.2.span.was.cells, .gone]) (by first | exact hB z89α S false e16 | (have q := hB z89α S false e16; simp only [cond_true, cond_false] at q; exact q)) ?_
     refine o_move rfl rfl guard_none (look_o rfl rfl) (fun _ => rfl) ?_
     apply h_endA (α := z89α) z89α
     ·exact (by (iterate 17 apply EqOn.same); exact .nil)
     ·exact rfl
     ·exact rfl
     ·exact rfl
     ·exact hB z89α (fun k => S k || Nat.beq k 0) false (or_f e16 rfl)
    ·intro z89α S hc hk hp
     have e16 : S 16 = false := (not_yet (j := 16) (q := 1) hc (not_yet (j := 5) (q := 0) hc (not_yet (j := 4) (q := 0) hc (not_yet (j := 3) (q := 0) hc hk rfl rfl rfl rfl) rfl rfl rfl rfl) rfl rfl rfl rfl) rfl rfl rfl rfl)
     refine eq_H (H' := [.vec z78α.1 (q0) z78.2.1.span.was.cells, .obj true z21 z22 (.dat (q2 z78α.1)) z78.2.1, .obj true z16 z17 (.dat (q1 z84α)) z87.2, .vec z78α.2.2.1 (q0) z78.2.2.2.1.span.was.cells, .obj true z11 z12 (.dat (q2 z78α.2.2.1)) z78.2.2.2.1, .obj true z6 z7 (.dat (q1 z79α)) z82.2, .vec z79α (q0) z82.2.span.was.cells, .vec z84α (q0) z87.2.span.was.cells, .gone]) (by first | exact hB z89α S false e16 | (have q := hB z89α S false e16; simp only [cond_true, cond_false] at q; exact q)) ?_
     refine o_move rfl rfl guard_none (look_o rfl rfl) (fun _ => rfl) ?_
     apply h_endA (α := z89α) z89α
     ·exact (by (iterate 17 apply EqOn.same); exact .nil)
     ·exact rfl
     ·exact rfl
     ·exact rfl
     ·exact hB z89α (fun k => S k || Nat.beq k 1) false (or_f e16 rfl)
    ·intro z89α S hc hk hp
     have e16 : S 16 = false := (not_yet (j := 16) (q := 1) hc (not_yet (j := 5) (q := 0) hc (not_yet (j := 4) (q := 0) hc (not_yet (j := 3) (q := 1) hc hk rfl rfl rfl rfl) rfl rfl rfl rfl) rfl rfl rfl rfl) rfl rfl rfl rfl)
     refine eq_H (H' := [.vec z78α.1 (q0) z78.2.1.span.was.cells, .obj true z21 z22 (.dat (q2 z78α.1)) z78.2.1, .obj true z16 z17 (.dat (q1 z84α)) z87.2, .vec z78α.2.2.1 (q0) z78.2.2.2.1.span.was.cells, .obj true z11 z12 (.dat (q2 z78α.2.2.1)) z78.2.2.2.1, .obj true z6 z7 (.dat (q1 z79α)) z82.2, .vec z79α (q0) z82.2.span.was.cells, .vec z84α (q0) z87.2.span.was.cells, .gone]) (by first | exact hB z89α S false e16 | (have q := hB z89α S false e16; simp only [cond_true, cond_false] at q; exact q)) ?_
     refine o_move rfl rfl guard_none (look_o rfl rfl) (fun _ => rfl) ?_
     apply h_endA (α := z89α) z89α
     ·exact (by (iterate 17 apply EqOn.same); exact .nil)
     ·exact rfl
     ·exact rfl
     ·exact rfl
     ·exact hB z89α (fun k => S k || Nat.beq k 2) false (or_f e16 rfl)
    ·intro z89α S hc hk hp
     have e16 : S 16 = false := (not_yet (j := 16) (q := 1) hc (not_yet (j := 5) (q := 0) hc (not_yet (j := 4) (q := 0) hc hk rfl rfl rfl rfl) rfl rfl rfl rfl) rfl rfl rfl rfl)
     refine eq_H (H' := [.vec z78α.1 (q0) z78.2.1.span.was.cells, .obj true z21 z22 (.dat (q2 z78α.1)) z78.2.1, .obj true z16 z17 (.dat (q1 z84α)) z87.2, .vec z78α.2.2.1 (q0) z78.2.2.2.1.span.was.cells, .obj true z11 z12 (.dat (q2 z78α.2.2.1)) z78.2.2.2.1, .obj true z6 z7 (.dat (q1 z79α)) z82.2, .vec z79α (q0) z82.2.span.was.cells, .vec z84α (q0) z87.2.span.was.cells, .gone]) (by first | exact hB z89α S false e16 | (have q := hB z89α S false e16; simp only [cond_true, cond_false] at q; exact q)) ?_
     refine o_from (bind_eqO h_z90) ?_
     refine o_iaddr Try.underlying55 type67 rfl rfl (look_d rfl rfl (pr hp 0 rfl rfl)) (look_d rfl rfl (pr hp 1 rfl rfl)) rfl rfl (o_eqO ?_)
     apply h_endA (α := z89α) z89α
     ·exact (by (iterate 17 apply EqOn.same); exact .nil)
     ·exact rfl
     ·exact rfl
     ·exact rfl
     ·exact hB z89α (fun k => S k || Nat.beq k 3) false (or_f e16 rfl)
    ·intro z89α S hc hk hp
     have e16 : S 16 = false := (not_yet (j := 16) (q := 1) hc (not_yet (j := 5) (q := 0) hc hk rfl rfl rfl rfl) rfl rfl rfl rfl)
     refine eq_H (H' := [.vec z78α.1 (q0) z78.2.1.span.was.cells, .obj true z21 z22 (.dat (q2 z78α.1)) z78.2.1, .obj true z16 z17 (.dat (q1 z84α)) z87.2, .vec z78α.2.2.1 (q0) z78.2.2.2.1.span.was.cells, .obj true z11 z12 (.dat (q2 z78α.2.2.1)) z78.2.2.2.1, .obj true z6 z7 (.dat (q1 z79α)) z82.2, .vec z79α (q0) z82.2.span.was.cells, .vec z84α (q0) z87.2.span.was.cells, .gone]) (by first | exact hB z89α S false e16 | (have q := hB z89α S false e16; simp only [cond_true, cond_false] at q; exact q)) ?_
     refine o_fptr field67_0 type2 (by decide) T_law16_Step_foc0 rfl rfl guard_none (look_d rfl rfl (pr hp 0 rfl rfl)) (fun _ => rfl) ?_
     apply h_endA (α := z89α) z89α
     ·exact (by (iterate 17 apply EqOn.same); exact .nil)
     ·exact rfl
     ·exact rfl
     ·exact rfl
     ·exact hB z89α (fun k => S k || Nat.beq k 4) false (or_f e16 rfl)
    ·intro z89α S hc hk hp
     have e16 : S 16 = false := (not_yet (j := 16) (q := 1) hc hk rfl rfl rfl rfl)
     refine eq_H (H' := [.vec z78α.1 (q0) z78.2.1.span.was.cells, .obj true z21 z22 (.dat (q2 z78α.1)) z78.2.1, .obj true z16 z17 (.dat (q1 z84α)) z87.2, .vec z78α.2.2.1 (q0) z78.2.2.2.1.span.was.cells, .obj true z11 z12 (.dat (q2 z78α.2.2.1)) z78.2.2.2.1, .obj true z6 z7 (.dat (q1 z79α)) z82.2, .vec z79α (q0) z82.2.span.was.cells, .vec z84α (q0) z87.2.span.was.cells, .gone]) (by first | exact hB z89α S false e16 | (have q := hB z89α S false e16; simp only [cond_true, cond_false] at q; exact q)) ?_
     refine o_load type2 rfl rfl guard_none (look_d rfl rfl (pr hp 0 rfl rfl)) (fun _ => rfl) ?_
     apply h_endA (α := z89α) z89α
     ·exact (by (iterate 17 apply EqOn.same); exact .nil)
     ·exact rfl
     ·exact rfl
     ·exact rfl
     ·exact hB z89α (fun k => S k || Nat.beq k 5) false (or_f e16 rfl)
    ·intro z89α S hc hk hp
     have e16 : S 16 = false := (not_yet (j := 16) (q := 2) hc (not_yet (j := 10) (q := 0) hc (not_yet (j := 9) (q := 0) hc (not_yet (j := 8) (q := 0) hc hk rfl rfl rfl rfl) rfl rfl rfl rfl) rfl rfl rfl rfl) rfl rfl rfl rfl)
     refine eq_H (H' := [.vec z78α.1 (q0) z78.2.1.span.was.cells, .obj true z21 z22 (.dat (q2 z78α.1)) z78.2.1, .obj true z16 z17 (.dat (q1 z84α)) z87.2, .vec z78α.2.2.1 (q0) z78.2.2.2.1.span.was.cells, .obj true z11 z12 (.dat (q2 z78α.2.2.1)) z78.2.2.2.1, .obj true z6 z7 (.dat (q1 z79α)) z82.2, .vec z79α (q0) z82.2.span.was.cells, .vec z84α (q0) z87.2.span.was.cells, .gone]) (by first | exact hB z89α S false e16 | (have q := hB z89α S false e16; simp only [cond_true, cond_false] at q; exact q)) ?_
     refine o_move rfl rfl guard_none (look_o rfl rfl) (fun _ => rfl) ?_
     apply h_endA (α := z89α) z89α
     ·exact (by (iterate 17 apply EqOn.same); exact .nil)
     ·exact rfl
     ·exact rfl
     ·exact rfl
     ·exact hB z89α (fun k => S k || Nat.beq k 6) false (or_f e16 rfl)
    ·intro z89α S hc hk hp
     have e16 : S 16 = false := (not_yet (j := 16) (q := 2) hc (not_yet (j := 10) (q := 0) hc (not_yet (j := 9) (q := 0) hc (not_yet (j := 8) (q := 1) hc hk rfl rfl rfl rfl) rfl rfl rfl rfl) rfl rfl rfl rfl) rfl rfl rfl rfl)
     refine eq_H (H' := [.vec z78α.1 (q0) z78.2.1.span.was.cells, .obj true z21 z22 (.dat (q2 z78α.1)) z78.2.1, .obj true z16 z17 (.dat (q1 z84α)) z87.2, .vec z78α.2.2.1 (q0) z78.2.2.2.1.span.was.cells, .obj true z11 z12 (.dat (q2 z78α.2.2.1)) z78.2.2.2.1, .obj true z6 z7 (.dat (q1 z79α)) z82.2, .vec z79α (q0) z82.2.span.was.cells, .vec z84α (q0) z87.2.span.was.cells, .gone]) (by first | exact hB z89α S false e16 | (have q := hB z89α S false e16; simp only [cond_true, cond_false] at q; exact q)) ?_
     refine o_move rfl rfl guard_none (look_o rfl rfl) (fun _ => rfl) ?_
     apply h_endA (α := z89α) z89α
     ·exact (by (iterate 17 apply EqOn.same); exact .nil)
     ·exact rfl
     ·exact rfl
     ·exact rfl
     ·exact hB z89α (fun k => S k || Nat.beq k 7) false (or_f e16 rfl)
    ·intro z89α S hc hk hp
     have e16 : S 16 = false := (not_yet (j := 16) (q := 2) hc (not_yet (j := 10) (q := 0) hc (not_yet (j := 9) (q := 0) hc hk rfl rfl rfl rfl) rfl rfl rfl rfl) rfl rfl rfl rfl)
     refine eq_H (H' := [.vec z78α.1 (q0) z78.2.1.span.was.cells, .obj true z21 z22 (.dat (q2 z78α.1)) z78.2.1, .obj true z16 z17 (.dat (q1 z84α)) z87.2, .vec z78α.2.2.1 (q0) z78.2.2.2.1.span.was.cells, .obj true z11 z12 (.dat (q2 z78α.2.2.1)) z78.2.2.2.1, .obj true z6 z7 (.dat (q1 z79α)) z82.2, .vec z79α (q0) z82.2.span.was.cells, .vec z84α (q0) z87.2.span.was.cells, .gone]) (by first | exact hB z89α S false e16 | (have q := hB z89α S false e16; simp only [cond_true, cond_false] at q; exact q)) ?_
     refine o_from (bind_eqO h_z91) ?_
     refine o_iaddr Try.underlying55 type67 rfl rfl (look_d rfl rfl (pr hp 0 rfl rfl)) (look_d rfl rfl (pr hp 1 rfl rfl)) rfl rfl (o_eqO ?_)
     apply h_endA (α := z89α) z89α
     ·exact (by (iterate 17 apply EqOn.same); exact .nil)
     ·exact rfl
     ·exact rfl
     ·exact rfl
     ·exact hB z89α (fun k => S k || Nat.beq k 8) false (or_f e16 rfl)
    ·intro z89α S hc hk hp
     have e16 : S 16 = false := (not_yet (j := 16) (q := 2) hc (not_yet (j := 10) (q := 0) hc hk rfl rfl rfl rfl) rfl rfl rfl rfl)
     refine eq_H (H' := [.vec z78α.1 (q0) z78.2.1.span.was.cells, .obj true z21 z22 (.dat (q2 z78α.1)) z78.2.1, .obj true z16 z17 (.dat (q1 z84α)) z87.2, .vec z78α.2.2.1 (q0) z78.2.2.2.1.span.was.cells, .obj true z11 z12 (.dat (q2 z78α.2.2.1)) z78.2.2.2.1, .obj true z6 z7 (.dat (q1 z79α)) z82.2, .vec z79α (q0) z82.2.span.was.cells, .vec z84α (q0) z87.2.span.was.cells, .gone]) (by first | exact hB z89α S false e16 | (have q := hB z89α S false e16; simp only [cond_true, cond_false] at q; exact q)) ?_
     refine o_fptr field67_1 type4 (by decide) T_law16_Step_foc1 rfl rfl guard_none (look_d rfl rfl (pr hp 0 rfl rfl)) (fun _ => rfl) ?_
     apply h_endA (α := z89α) z89α
     ·exact (by (iterate 17 apply EqOn.same); exact .nil)
     ·exact rfl
     ·exact rfl
     ·exact rfl
     ·exact hB z89α (fun k => S k || Nat.beq k 9) false (or_f e16 rfl)
    ·intro z89α S hc hk hp
     have e16 : S 16 = false := (not_yet (j := 16) (q := 2) hc hk rfl rfl rfl rfl)
     refine eq_H (H' := [.vec z78α.1 (q0) z78.2.1.span.was.cells, .obj true z21 z22 (.dat (q2 z78α.1)) z78.2.1, .obj true z16 z17 (.dat (q1 z84α)) z87.2, .vec z78α.2.2.1 (q0) z78.2.2.2.1.span.was.cells, .obj true z11 z12 (.dat (q2 z78α.2.2.1)) z78.2.2.2.1, .obj true z6 z7 (.dat (q1 z79α)) z82.2, .vec z79α (q0) z82.2.span.was.cells, .vec z84α (q0) z87.2.span.was.cells, .gone]) (by first | exact hB z89α S false e16 | (have q := hB z89α S false e16; simp only [cond_true, cond_false] at q; exact q)) ?_
     refine o_load type4 rfl rfl guard_none (look_d rfl rfl (pr hp 0 rfl rfl)) (fun _ => rfl) ?_
     apply h_endA (α := z89α) z89α
     ·exact (by (iterate 17 apply EqOn.same); exact .nil)
     ·exact rfl
     ·exact rfl
     ·exact rfl
     ·exact hB z89α (fun k => S k || Nat.beq k 10) false (or_f e16 rfl)
    ·intro z89α S hc hk hp
     have e16 : S 16 = false := (not_yet (j := 16) (q := 3) hc (not_yet (j := 15) (q := 0) hc (not_yet (j := 14) (q := 0) hc (not_yet (j := 13) (q := 0) hc hk rfl rfl rfl rfl) rfl rfl rfl rfl) rfl rfl rfl rfl) rfl rfl rfl rfl)
     refine eq_H (H' := [.vec z78α.1 (q0) z78.2.1.span.was.cells, .obj true z21 z22 (.dat (q2 z78α.1)) z78.2.1, .obj true z16 z17 (.dat (q1 z84α)) z87.2, .vec z78α.2.2.1 (q0) z78.2.2.2.1.span.was.cells, .obj true z11 z12 (.dat (q2 z78α.2.2.1)) z78.2.2.2.1, .obj true z6 z7 (.dat (q1 z79α)) z82.2, .vec z79α (q0) z82.2.span.was.cells, .vec z84α (q0) z87.2.span.was.cells, .gone]) (by first | exact hB z89α S false e16 | (have q := hB z89α S false e16; simp only [cond_true, cond_false] at q; exact q)) ?_
     refine o_move rfl rfl guard_none (look_o rfl rfl) (fun _ => rfl) ?_
     apply h_endA (α := z89α) z89α
     ·exact (by (iterate 17 apply EqOn.same); exact .nil)
     ·exact rfl
     ·exact rfl
     ·exact rfl
     ·exact hB z89α (fun k => S k || Nat.beq k 11) false (or_f e16 rfl)
    ·intro z89α S hc hk hp
     have e16 : S 16 = false := (not_yet (j := 16) (q := 3) hc (not_yet (j := 15) (q := 0) hc (not_yet (j := 14) (q := 0) hc (not_yet (j := 13) (q := 1) hc hk rfl rfl rfl rfl) rfl rfl rfl rfl) rfl rfl rfl rfl) rfl rfl rfl rfl)
     refine eq_H (H' := [.vec z78α.1 (q0) z78.2.1.span.was.cells, .obj true z21 z22 (.dat (q2 z78α.1)) z78.2.1, .obj true z16 z17 (.dat (q1 z84α)) z87.2, .vec z78α.2.2.1 (q0) z78.2.2.2.1.span.was.cells, .obj true z11 z12 (.dat (q2 z78α.2.2.1)) z78.2.2.2.1, .obj true z6 z7 (.dat (q1 z79α)) z82.2, .vec z79α (q0) z82.2.span.was.cells, .vec z84α (q0) z87.2.span.was.cells, .gone]) (by first | exact hB z89α S false e16 | (have q := hB z89α S false e16; simp only [cond_true, cond_false] at q; exact q)) ?_
     refine o_move rfl rfl guard_none (look_o rfl rfl) (fun _ => rfl) ?_
     apply h_endA (α := z89α) z89α
     ·exact (by (iterate 17 apply EqOn.same); exact .nil)
     ·exact rfl
     ·exact rfl
     ·exact rfl
     ·exact hB z89α (fun k => S k || Nat.beq k 12) false (or_f e16 rfl)
    ·intro z89α S hc hk hp
     have e16 : S 16 = false := (not_yet (j := 16) (q := 3) hc (not_yet (j := 15) (q := 0) hc (not_yet (j := 14) (q := 0) hc hk rfl rfl rfl rfl) rfl rfl rfl rfl) rfl rfl rfl rfl)
     refine eq_H (H' := [.vec z78α.1 (q0) z78.2.1.span.was.cells, .obj true z21 z22 (.dat (q2 z78α.1)) z78.2.1, .obj true z16 z17 (.dat (q1 z84α)) z87.2, .vec z78α.2.2.1 (q0) z78.2.2.2.1.span.was.cells, .obj true z11 z12 (.dat (q2 z78α.2.2.1)) z78.2.2.2.1, .obj true z6 z7 (.dat (q1 z79α)) z82.2, .vec z79α (q0) z82.2.span.was.cells, .vec z84α (q0) z87.2.span.was.cells, .gone]) (by first | exact hB z89α S false e16 | (have q := hB z89α S false e16; simp only [cond_true, cond_false] at q; exact q)) ?_
     refine o_from (bind_eqO h_z92) ?_
     refine o_iaddr Try.underlying55 type67 rfl rfl (look_d rfl rfl (pr hp 0 rfl rfl)) (look_d rfl rfl (pr hp 1 rfl rfl)) rfl rfl (o_eqO ?_)
     apply h_endA (α := z89α) z89α
     ·exact (by (iterate 17 apply EqOn.same); exact .nil)
     ·exact rfl
     ·exact rfl
     ·exact rfl
     ·exact hB z89α (fun k => S k || Nat.beq k 13) false (or_f e16 rfl)
    ·intro z89α S hc hk hp
     have e16 : S 16 = false := (not_yet (j := 16) (q := 3) hc (not_yet (j := 15) (q := 0) hc hk rfl rfl rfl rfl) rfl rfl rfl rfl)
     refine eq_H (H' := [.vec z78α.1 (q0) z78.2.1.span.was.cells, .obj true z21 z22 (.dat (q2 z78α.1)) z78.2.1, .obj true z16 z17 (.dat (q1 z84α)) z87.2, .vec z78α.2.2.1 (q0) z78.2.2.2.1.span.was.cells, .obj true z11 z12 (.dat (q2 z78α.2.2.1)) z78.2.2.2.1, .obj true z6 z7 (.dat (q1 z79α)) z82.2, .vec z79α (q0) z82.2.span.was.cells, .vec z84α (q0) z87.2.span.was.cells, .gone]) (by first | exact hB z89α S false e16 | (have q := hB z89α S false e16; simp only [cond_true, cond_false] at q; exact q)) ?_
     refine o_fptr field67_2 type4 (by decide) T_law16_Step_foc2 rfl rfl guard_none (look_d rfl rfl (pr hp 0 rfl rfl)) (fun _ => rfl) ?_
     apply h_endA (α := z89α) z89α
     ·exact (by (iterate 17 apply EqOn.same); exact .nil)
     ·exact rfl
     ·exact rfl
     ·exact rfl
     ·exact hB z89α (fun k => S k || Nat.beq k 14) false (or_f e16 rfl)
    ·intro z89α S hc hk hp
     have e16 : S 16 = false := (not_yet (j := 16) (q := 3) hc hk rfl rfl rfl rfl)
     refine eq_H (H' := [.vec z78α.1 (q0) z78.2.1.span.was.cells, .obj true z21 z22 (.dat (q2 z78α.1)) z78.2.1, .obj true z16 z17 (.dat (q1 z84α)) z87.2, .vec z78α.2.2.1 (q0) z78.2.2.2.1.span.was.cells, .obj true z11 z12 (.dat (q2 z78α.2.2.1)) z78.2.2.2.1, .obj true z6 z7 (.dat (q1 z79α)) z82.2, .vec z79α (q0) z82.2.span.was.cells, .vec z84α (q0) z87.2.span.was.cells, .gone]) (by first | exact hB z89α S false e16 | (have q := hB z89α S false e16; simp only [cond_true, cond_false] at q; exact q)) ?_
     refine o_load type4 rfl rfl guard_none (look_d rfl rfl (pr hp 0 rfl rfl)) (fun _ => rfl) ?_
     apply h_endA (α := z89α) z89α
     ·exact (by (iterate 17 apply EqOn.same); exact .nil)
     ·exact rfl
     ·exact rfl
     ·exact rfl
     ·exact hB z89α (fun k => S k || Nat.beq k 15) false (or_f e16 rfl)
    ·intro z89α S hc hk hp
     refine eq_H (H' := [.vec z78α.1 (q0) z78.2.1.span.was.cells, .obj true z21 z22 (.dat (q2 z78α.1)) z78.2.1, .obj true z16 z17 (.dat (q1 z84α)) z87.2, .vec z78α.2.2.1 (q0) z78.2.2.2.1.span.was.cells, .obj true z11 z12 (.dat (q2 z78α.2.2.1)) z78.2.2.2.1, .obj true z6 z7 (.dat (q1 z79α)) z82.2, .vec z79α (q0) z82.2.span.was.cells, .vec z84α (q0) z87.2.span.was.cells, .gone]) (by first | exact hB z89α S false hk | (have q := hB z89α S false hk; simp only [cond_true, cond_false] at q; exact q)) ?_
     refine o_from (bind_eqO h_z93) ?_
     refine o_weak (H' := [.vec z78α.2.2.1 (q0) z78.2.2.2.1.span.was.cells, .obj true z11 z12 (.dat (q2 z78α.2.2.1)) z78.2.2.2.1] ++ ([] ++ [.vec z78α.1 (q0) z78.2.1.span.was.cells, .obj true z21 z22 (.dat (q2 z78α.1)) z78.2.1, .obj true z16 z17 (.dat (q1 z84α)) z87.2, .obj true z6 z7 (.dat (q1 z79α)) z82.2, .vec z79α (q0) z82.2.span.was.cells, .vec z84α (q0) z87.2.span.was.cells, .gone])) (sub_pick [3, 4, 0, 1, 2, 5, 6, 7, 8] rfl rfl) ?_
     refine o_callU rfl rfl rfl rfl rfl callable37 (looks_cons (look_d rfl rfl (pr hp 0 rfl rfl)) (fun _ => rfl) (looks_cons (look_d rfl rfl (pr hp 1 rfl rfl)) (fun _ => rfl) (looks_cons (look_d rfl rfl (pr hp 2 rfl rfl)) (fun _ => rfl) (looks_cons (look_d rfl rfl (pr hp 3 rfl rfl)) (fun _ => rfl) (looks_nil))))) .nil (window_Since_Step_ok _ _ _ z78.2.2.2.1 z90.At z91.F z92.G) (fun _ _ => (wr_v (wr_c wr_n))) (fun z94α => o_eqOH ?_)
     refine o_weak (H' := [.vec z94α (q0) z93.2.span.was.cells, .obj true z11 z12 (.dat (q2 z94α)) z93.2, .vec z78α.1 (q0) z78.2.1.span.was.cells, .obj true z21 z22 (.dat (q2 z78α.1)) z78.2.1, .obj true z16 z17 (.dat (q1 z84α)) z87.2, .obj true z6 z7 (.dat (q1 z79α)) z82.2, .vec z79α (q0) z82.2.span.was.cells, .vec z84α (q0) z87.2.span.was.cells, .gone]) (sub_pick [0, 1, 2, 3, 4, 5, 6, 7, 8] rfl rfl) ?_
     refine o_weak sub_gone ?_
     refine o_weak (H' := [.vec z78α.1 (q0) z78.2.1.span.was.cells, .obj true z21 z22 (.dat (q2 z78α.1)) z78.2.1, .obj true z16 z17 (.dat (q1 z84α)) z87.2, .gone, .obj true z11 z12 (.dat (q2 z94α)) z93.2, .obj true z6 z7 (.dat (q1 z79α)) z82.2, .vec z79α (q0) z82.2.span.was.cells, .vec z84α (q0) z87.2.span.was.cells, .vec z94α (q0) z93.2.span.was.cells]) (sub_pick [3, 4, 5, 0, 2, 6, 7, 8, 1] rfl rfl) ?_
     apply h_endA (α := z89α) z94α
     ·exact (by (iterate 17 apply EqOn.same); exact .nil)
     ·exact rfl
     ·exact rfl
     ·exact rfl
     ·exact hB z94α (fun k => S k || Nat.beq k 16) true (or_i rfl)
    refine den_weak (H' := [.vec z78α.1 (q0) z78.2.1.span.was.cells, .obj true z21 z22 (.dat (q2 z78α.1)) z78.2.1, .obj true z16 z17 (.dat (q1 z84α)) z87.2, .obj true z11 z12 (.dat (q2 z89α)) z93.2, .obj true z6 z7 (.dat (q1 z79α)) z82.2, .vec z79α (q0) z82.2.span.was.cells, .vec z84α (q0) z87.2.span.was.cells, .vec z89α (q0) z93.2.span.was.cells]) (sub_pick [0, 1, 2, 4, 5, 6, 7, 8] rfl rfl) ?_
    refine den_open (fun z96 h_z96 => ?_)
    refine den_open (fun z97 h_z97 => ?_)
    refine den_open (fun z98 h_z98 => ?_)
    refine den_open (fun z99 h_z99 => ?_)
    have hB : ∀ (z95α : Value) (S : Nat → Bool) (b16 : Bool), S 16 = b16 → (([(cond (S 16) (.gone) (.vec z78α.1 (q0) z78.2.1.span.was.cells)), (cond (S 16) (.obj true z21 z22 (.dat (q2 z95α)) z99.2) (.obj true z21 z22 (.dat (q2 z78α.1)) z78.2.1)), .obj true z16 z17 (.dat (q1 z84α)) z87.2, .obj true z11 z12 (.dat (q2 z89α)) z93.2, .obj true z6 z7 (.dat (q1 z79α)) z82.2, .vec z79α (q0) z82.2.span.was.cells, .vec z84α (q0) z87.2.span.was.cells, .vec z89α (q0) z93.2.span.was.cells, (cond (S 16) (.vec (z95α) (q0) z99.2.span.was.cells) (.gone))] : List Go.Eng.Item)) = ([(cond b16 (.gone) (.vec z78α.1 (q0) z78.2.1.span.was.cells)), (cond b16 (.obj true z21 z22 (.dat (q2 z95α)) z99.2) (.obj true z21 z22 (.dat (q2 z78α.1)) z78.2.1)), .obj true z16 z17 (.dat (q1 z84α)) z87.2, .obj true z11 z12 (.dat (q2 z89α)) z93.2, .obj true z6 z7 (.dat (q1 z79α)) z82.2, .vec z79α (q0) z82.2.span.was.cells, .vec z84α (q0) z87.2.span.was.cells, .vec z89α (q0) z93.2.span.was.cells, (cond b16 (.vec (z95α) (q0) z99.2.span.was.cells) (.gone))] : List Go.Eng.Item) := fun z95α S b16 h16 => by subst h16; rfl
    refine den_weak sub_gone ?_
    refine den_weak (sub_pick (H' := [.vec z78α.1 (q0) z78.2.1.span.was.cells, .obj true z21 z22 (.dat (q2 z78α.1)) z78.2.1, .obj true z16 z17 (.dat (q1 z84α)) z87.2, .obj true z11 z12 (.dat (q2 z89α)) z93.2, .obj true z6 z7 (.dat (q1 z79α)) z82.2, .vec z79α (q0) z82.2.span.was.cells, .vec z84α (q0) z87.2.span.was.cells, .vec z89α (q0) z93.2.span.was.cells, .gone]) [1, 2, 3, 4, 5, 6, 7, 8, 0] rfl rfl) ?_
    refine den_drawA (A := Value) (H' := fun z95α => [.gone, .obj true z21 z22 (.dat (q2 z95α)) z99.2, .obj true z16 z17 (.dat (q1 z84α)) z87.2, .obj true z11 z12 (.dat (q2 z89α)) z93.2, .obj true z6 z7 (.dat (q1 z79α)) z82.2, .vec z79α (q0) z82.2.span.was.cells, .vec z84α (q0) z87.2.span.was.cells, .vec z89α (q0) z93.2.span.was.cells, .vec (z95α) (q0) z99.2.span.was.cells]) (fun z95α => [(86, ⟨Rep.addr, (z21, z22), true⟩), (87, ⟨(T_law16_Step_rep).slice, z2, true⟩), (88, ⟨Rep.int .i64, z78.1, true⟩), (89, ⟨(T_law16_Step_rep).ptrTo, z96, true⟩), (90, ⟨(Rep.int .i64).ptrTo, z96.At, true⟩), (91, ⟨Rep.int .i64, z96.At, true⟩), (92, ⟨(T_law16_Step_rep).slice, z2, true⟩), (93, ⟨Rep.int .i64, z78.1, true⟩), (94, ⟨(T_law16_Step_rep).ptrTo, z97, true⟩), (95, ⟨(Rep.bool).ptrTo, z97.F, true⟩), (96, ⟨Rep.bool, z97.F, true⟩), (97, ⟨(T_law16_Step_rep).slice, z2, true⟩), (98, ⟨Rep.int .i64, z78.1, true⟩), (99, ⟨(T_law16_Step_rep).ptrTo, z98, true⟩), (100, ⟨(Rep.bool).ptrTo, z98.G, true⟩), (101, ⟨Rep.bool, z98.G, true⟩), (102, ⟨Rep.bool, z99.1, true⟩)]) (fun z95α S => [(cond (S 16) (.gone) (.vec z78α.1 (q0) z78.2.1.span.was.cells)), (cond (S 16) (.obj true z21 z22 (.dat (q2 z95α)) z99.2) (.obj true z21 z22 (.dat (q2 z78α.1)) z78.2.1)), .obj true z16 z17 (.dat (q1 z84α)) z87.2, .obj true z11 z12 (.dat (q2 z89α)) z93.2, .obj true z6 z7 (.dat (q1 z79α)) z82.2, .vec z79α (q0) z82.2.span.was.cells, .vec z84α (q0) z87.2.span.was.cells, .vec z89α (q0) z93.2.span.was.cells, (cond (S 16) (.vec (z95α) (q0) z99.2.span.was.cells) (.gone))]) (Value.slice none 0 0) mixed (fun _ => rfl) rfl rfl (fun z95α S hS => hB z95α S true (hS 16 (by decide))) ⟨?_, ?_, ?_, ?_, ?_, ?_, ?_, ?_, ?_, ?_, ?_, ?_, ?_, ?_, ?_, ?_, ?_, trivial⟩ (fun z95α => ?_)
    ·intro z95α S hc hk hp
     have e16 : S 16 = false := (not_yet (j := 16) (q := 0) hc hk rfl rfl rfl rfl)
     refine eq_H (H' := [.vec z78α.1 (q0) z78.2.1.span.was.cells, .obj true z21 z22 (.dat (q2 z78α.1)) z78.2.1, .obj true z16 z17 (.dat (q1 z84α)) z87.2, .obj true z11 z12 (.dat (q2 z89α)) z93.2, .obj true z6 z7 (.dat (q1 z79α)) z82.2, .vec z79α (q0) z82.2.span.was.cells, .vec z84α (q0) z87.2.span.was.cells, .vec z89α (q0) z93.2.span.was.cells, .gone]) (by first | exact hB z95α S false e16 | (have q := hB z95α S false e16; simp only [cond_true, cond_false] at q; exact q)) ?_
     refine o_move rfl rfl guard_none (look_o rfl rfl) (fun _ => rfl) ?_
     apply h_endA (α := z95α) z95α
     ·exact (by (iterate 17 apply EqOn.same); exact .nil)
     ·exact rfl
     ·exact rfl
     ·exact rfl
     ·exact hB z95α (fun k => S k || Nat.beq k 0) false (or_f e16 rfl)
    ·intro z95α S hc hk hp
     have e16 : S 16 = false := (not_yet (j := 16) (q := 1) hc (not_yet (j := 5) (q := 0) hc (not_yet (j := 4) (q := 0) hc (not_yet (j := 3) (q := 0) hc hk rfl rfl rfl rfl) rfl rfl rfl rfl) rfl rfl rfl rfl) rfl rfl rfl rfl)
     refine eq_H (H' := [.vec z78α.1 (q0) z78.2.1.span.was.cells, .obj true z21 z22 (.dat (q2 z78α.1)) z78.2.1, .obj true z16 z17 (.dat (q1 z84α)) z87.2, .obj true z11 z12 (.dat (q2 z89α)) z93.2, .obj true z6 z7 (.dat (q1 z79α)) z82.2, .vec z79α (q0) z82.2.span.was.cells, .vec z84α (q0) z87.2.span.was.cells, .vec z89α (q0) z93.2.span.was.cells, .gone]) (by first | exact hB z95α S false e16 | (have q := hB z95α S false e16; simp only [cond_true, cond_false] at q; exact q)) ?_
     refine o_move rfl rfl guard_none (look_o rfl rfl) (fun _ => rfl) ?_
     apply h_endA (α := z95α) z95α
     ·exact (by (iterate 17 apply EqOn.same); exact .nil)
     ·exact rfl
     ·exact rfl
     ·exact rfl
     ·exact hB z95α (fun k => S k || Nat.beq k 1) false (or_f e16 rfl)
    ·intro z95α S hc hk hp
     have e16 : S 16 = false := (not_yet (j := 16) (q := 1) hc (not_yet (j := 5) (q := 0) hc (not_yet (j := 4) (q := 0) hc (not_yet (j := 3) (q := 1) hc hk rfl rfl rfl rfl) rfl rfl rfl rfl) rfl rfl rfl rfl) rfl rfl rfl rfl)
     refine eq_H (H' := [.vec z78α.1 (q0) z78.2.1.span.was.cells, .obj true z21 z22 (.dat (q2 z78α.1)) z78.2.1, .obj true z16 z17 (.dat (q1 z84α)) z87.2, .obj true z11 z12 (.dat (q2 z89α)) z93.2, .obj true z6 z7 (.dat (q1 z79α)) z82.2, .vec z79α (q0) z82.2.span.was.cells, .vec z84α (q0) z87.2.span.was.cells, .vec z89α (q0) z93.2.span.was.cells, .gone]) (by first | exact hB z95α S false e16 | (have q := hB z95α S false e16; simp only [cond_true, cond_false] at q; exact q)) ?_
     refine o_move rfl rfl guard_none (look_o rfl rfl) (fun _ => rfl) ?_
     apply h_endA (α := z95α) z95α
     ·exact (by (iterate 17 apply EqOn.same); exact .nil)
     ·exact rfl
     ·exact rfl
     ·exact rfl
     ·exact hB z95α (fun k => S k || Nat.beq k 2) false (or_f e16 rfl)
    ·intro z95α S hc hk hp
     have e16 : S 16 = false := (not_yet (j := 16) (q := 1) hc (not_yet (j := 5) (q := 0) hc (not_yet (j := 4) (q := 0) hc hk rfl rfl rfl rfl) rfl rfl rfl rfl) rfl rfl rfl rfl)
     refine eq_H (H' := [.vec z78α.1 (q0) z78.2.1.span.was.cells, .obj true z21 z22 (.dat (q2 z78α.1)) z78.2.1, .obj true z16 z17 (.dat (q1 z84α)) z87.2, .obj true z11 z12 (.dat (q2 z89α)) z93.2, .obj true z6 z7 (.dat (q1 z79α)) z82.2, .vec z79α (q0) z82.2.span.was.cells, .vec z84α (q0) z87.2.span.was.cells, .vec z89α (q0) z93.2.span.was.cells, .gone]) (by first | exact hB z95α S false e16 | (have q := hB z95α S false e16; simp only [cond_true, cond_false] at q; exact q)) ?_
     refine o_from (bind_eqO h_z96) ?_
     refine o_iaddr Try.underlying55 type67 rfl rfl (look_d rfl rfl (pr hp 0 rfl rfl)) (look_d rfl rfl (pr hp 1 rfl rfl)) rfl rfl (o_eqO ?_)
     apply h_endA (α := z95α) z95α
     ·exact (by (iterate 17 apply EqOn.same); exact .nil)
     ·exact rfl
     ·exact rfl
     ·exact rfl
     ·exact hB z95α (fun k => S k || Nat.beq k 3) false (or_f e16 rfl)
    ·intro z95α S hc hk hp
     have e16 : S 16 = false := (not_yet (j := 16) (q := 1) hc (not_yet (j := 5) (q := 0) hc hk rfl rfl rfl rfl) rfl rfl rfl rfl)
     refine eq_H (H' := [.vec z78α.1 (q0) z78.2.1.span.was.cells, .obj true z21 z22 (.dat (q2 z78α.1)) z78.2.1, .obj true z16 z17 (.dat (q1 z84α)) z87.2, .obj true z11 z12 (.dat (q2 z89α)) z93.2, .obj true z6 z7 (.dat (q1 z79α)) z82.2, .vec z79α (q0) z82.2.span.was.cells, .vec z84α (q0) z87.2.span.was.cells, .vec z89α (q0) z93.2.span.was.cells, .gone]) (by first | exact hB z95α S false e16 | (have q := hB z95α S false e16; simp only [cond_true, cond_false] at q; exact q)) ?_
     refine o_fptr field67_0 type2 (by decide) T_law16_Step_foc0 rfl rfl guard_none (look_d rfl rfl (pr hp 0 rfl rfl)) (fun _ => rfl) ?_
     apply h_endA (α := z95α) z95α
     ·exact (by (iterate 17 apply EqOn.same); exact .nil)
     ·exact rfl
     ·exact rfl
     ·exact rfl
     ·exact hB z95α (fun k => S k || Nat.beq k 4) false (or_f e16 rfl)
    ·intro z95α S hc hk hp
     have e16 : S 16 = false := (not_yet (j := 16) (q := 1) hc hk rfl rfl rfl rfl)
     refine eq_H (H' := [.vec z78α.1 (q0) z78.2.1.span.was.cells, .obj true z21 z22 (.dat (q2 z78α.1)) z78.2.1, .obj true z16 z17 (.dat (q1 z84α)) z87.2, .obj true z11 z12 (.dat (q2 z89α)) z93.2, .obj true z6 z7 (.dat (q1 z79α)) z82.2, .vec z79α (q0) z82.2.span.was.cells, .vec z84α (q0) z87.2.span.was.cells, .vec z89α (q0) z93.2.span.was.cells, .gone]) (by first | exact hB z95α S false e16 | (have q := hB z95α S false e16; simp only [cond_true, cond_false] at q; exact q)) ?_
     refine o_load type2 rfl rfl guard_none (look_d rfl rfl (pr hp 0 rfl rfl)) (fun _ => rfl) ?_
     apply h_endA (α := z95α) z95α
     ·exact (by (iterate 17 apply EqOn.same); exact .nil)
     ·exact rfl
     ·exact rfl
     ·exact rfl
     ·exact hB z95α (fun k => S k || Nat.beq k 5) false (or_f e16 rfl)
    ·intro z95α S hc hk hp
     have e16 : S 16 = false := (not_yet (j := 16) (q := 2) hc (not_yet (j := 10) (q := 0) hc (not_yet (j := 9) (q := 0) hc (not_yet (j := 8) (q := 0) hc hk rfl rfl rfl rfl) rfl rfl rfl rfl) rfl rfl rfl rfl) rfl rfl rfl rfl)
     refine eq_H (H' := [.vec z78α.1 (q0) z78.2.1.span.was.cells, .obj true z21 z22 (.dat (q2 z78α.1)) z78.2.1, .obj true z16 z17 (.dat (q1 z84α)) z87.2, .obj true z11 z12 (.dat (q2 z89α)) z93.2, .obj true z6 z7 (.dat (q1 z79α)) z82.2, .vec z79α (q0) z82.2.span.was.cells, .vec z84α (q0) z87.2.span.was.cells, .vec z89α (q0) z93.2.span.was.cells, .gone]) (by first | exact hB z95α S false e16 | (have q := hB z95α S false e16; simp only [cond_true, cond_false] at q; exact q)) ?_
     refine o_move rfl rfl guard_none (look_o rfl rfl) (fun _ => rfl) ?_
     apply h_endA (α := z95α) z95α
     ·exact (by (iterate 17 apply EqOn.same); exact .nil)
     ·exact rfl
     ·exact rfl
     ·exact rfl
     ·exact hB z95α (fun k => S k || Nat.beq k 6) false (or_f e16 rfl)
    ·intro z95α S hc hk hp
     have e16 : S 16 = false := (not_yet (j := 16) (q := 2) hc (not_yet (j := 10) (q := 0) hc (not_yet (j := 9) (q := 0) hc (not_yet (j := 8) (q := 1) hc hk rfl rfl rfl rfl) rfl rfl rfl rfl) rfl rfl rfl rfl) rfl rfl rfl rfl)
     refine eq_H (H' := [.vec z78α.1 (q0) z78.2.1.span.was.cells, .obj true z21 z22 (.dat (q2 z78α.1)) z78.2.1, .obj true z16 z17 (.dat (q1 z84α)) z87.2, .obj true z11 z12 (.dat (q2 z89α)) z93.2, .obj true z6 z7 (.dat (q1 z79α)) z82.2, .vec z79α (q0) z82.2.span.was.cells, .vec z84α (q0) z87.2.span.was.cells, .vec z89α (q0) z93.2.span.was.cells, .gone]) (by first | exact hB z95α S false e16 | (have q := hB z95α S false e16; simp only [cond_true, cond_false] at q; exact q)) ?_
     refine o_move rfl rfl guard_none (look_o rfl rfl) (fun _ => rfl) ?_
     apply h_endA (α := z95α) z95α
     ·exact (by (iterate 17 apply EqOn.same); exact .nil)
     ·exact rfl
     ·exact rfl
     ·exact rfl
     ·exact hB z95α (fun k => S k || Nat.beq k 7) false (or_f e16 rfl)
    ·intro z95α S hc hk hp
     have e16 : S 16 = false := (not_yet (j := 16) (q := 2) hc (not_yet (j := 10) (q := 0) hc (not_yet (j := 9) (q := 0) hc hk rfl rfl rfl rfl) rfl rfl rfl rfl) rfl rfl rfl rfl)
     refine eq_H (H' := [.vec z78α.1 (q0) z78.2.1.span.was.cells, .obj true z21 z22 (.dat (q2 z78α.1)) z78.2.1, .obj true z16 z17 (.dat (q1 z84α)) z87.2, .obj true z11 z12 (.dat (q2 z89α)) z93.2, .obj true z6 z7 (.dat (q1 z79α)) z82.2, .vec z79α (q0) z82.2.span.was.cells, .vec z84α (q0) z87.2.span.was.cells, .vec z89α (q0) z93.2.span.was.cells, .gone]) (by first | exact hB z95α S false e16 | (have q := hB z95α S false e16; simp only [cond_true, cond_false] at q; exact q)) ?_
     refine o_from (bind_eqO h_z97) ?_
     refine o_iaddr Try.underlying55 type67 rfl rfl (look_d rfl rfl (pr hp 0 rfl rfl)) (look_d rfl rfl (pr hp 1 rfl rfl)) rfl rfl (o_eqO ?_)
     apply h_endA (α := z95α) z95α
     ·exact (by (iterate 17 apply EqOn.same); exact .nil)
     ·exact rfl
     ·exact rfl
     ·exact rfl
     ·exact hB z95α (fun k => S k || Nat.beq k 8) false (or_f e16 rfl)
    ·intro z95α S hc hk hp
     have e16 : S 16 = false := (not_yet (j := 16) (q := 2) hc (not_yet (j := 10) (q := 0) hc hk rfl rfl rfl rfl) rfl rfl rfl rfl)
     refine eq_H (H' := [.vec z78α.1 (q0) z78.2.1.span.was.cells, .obj true z21 z22 (.dat (q2 z78α.1)) z78.2.1, .obj true z16 z17 (.dat (q1 z84α)) z87.2, .obj true z11 z12 (.dat (q2 z89α)) z93.2, .obj true z6 z7 (.dat (q1 z79α)) z82.2, .vec z79α (q0) z82.2.span.was.cells, .vec z84α (q0) z87.2.span.was.cells, .vec z89α (q0) z93.2.span.was.cells, .gone]) (by first | exact hB z95α S false e16 | (have q := hB z95α S false e16; simp only [cond_true, cond_false] at q; exact q)) ?_
     refine o_fptr field67_1 type4 (by decide) T_law16_Step_foc1 rfl rfl guard_none (look_d rfl rfl (pr hp 0 rfl rfl)) (fun _ => rfl) ?_
     apply h_endA (α := z95α) z95α
     ·exact (by (iterate 17 apply EqOn.same); exact .nil)
     ·exact rfl
     ·exact rfl
     ·exact rfl
     ·exact hB z95α (fun k => S k || Nat.beq k 9) false (or_f e16 rfl)
    ·intro z95α S hc hk hp
     have e16 : S 16 = false := (not_yet (j := 16) (q := 2) hc hk rfl rfl rfl rfl)
     refine eq_H (H' := [.vec z78α.1 (q0) z78.2.1.span.was.cells, .obj true z21 z22 (.dat (q2 z78α.1)) z78.2.1, .obj true z16 z17 (.dat (q1 z84α)) z87.2, .obj true z11 z12 (.dat (q2 z89α)) z93.2, .obj true z6 z7 (.dat (q1 z79α)) z82.2, .vec z79α (q0) z82.2.span.was.cells, .vec z84α (q0) z87.2.span.was.cells, .vec z89α (q0) z93.2.span.was.cells, .gone]) (by first | exact hB z95α S false e16 | (have q := hB z95α S false e16; simp only [cond_true, cond_false] at q; exact q)) ?_
     refine o_load type4 rfl rfl guard_none (look_d rfl rfl (pr hp 0 rfl rfl)) (fun _ => rfl) ?_
     apply h_endA (α := z95α) z95α
     ·exact (by (iterate 17 apply EqOn.same); exact .nil)
     ·exact rfl
     ·exact rfl
     ·exact rfl
     ·exact hB z95α (fun k => S k || Nat.beq k 10) false (or_f e16 rfl)
    ·intro z95α S hc hk hp
     have e16 : S 16 = false := (not_yet (j := 16) (q := 3) hc (not_yet (j := 15) (q := 0) hc (not_yet (j := 14) (q := 0) hc (not_yet (j := 13) (q := 0) hc hk rfl rfl rfl rfl) rfl rfl rfl rfl) rfl rfl rfl rfl) rfl rfl rfl rfl)
     refine eq_H (H' := [.vec z78α.1 (q0) z78.2.1.span.was.cells, .obj true z21 z22 (.dat (q2 z78α.1)) z78.2.1, .obj true z16 z17 (.dat (q1 z84α)) z87.2, .obj true z11 z12 (.dat (q2 z89α)) z93.2, .obj true z6 z7 (.dat (q1 z79α)) z82.2, .vec z79α (q0) z82.2.span.was.cells, .vec z84α (q0) z87.2.span.was.cells, .vec z89α (q0) z93.2.span.was.cells, .gone]) (by first | exact hB z95α S false e16 | (have q := hB z95α S false e16; simp only [cond_true, cond_false] at q; exact q)) ?_
     refine o_move rfl rfl guard_none (look_o rfl rfl) (fun _ => rfl) ?_
     apply h_endA (α := z95α) z95α
     ·exact (by (iterate 17 apply EqOn.same); exact .nil)
     ·exact rfl
     ·exact rfl
     ·exact rfl
     ·exact hB z95α (fun k => S k || Nat.beq k 11) false (or_f e16 rfl)
    ·intro z95α S hc hk hp
     have e16 : S 16 = false := (not_yet (j := 16) (q := 3) hc (not_yet (j := 15) (q := 0) hc (not_yet (j := 14) (q := 0) hc (not_yet (j := 13) (q := 1) hc hk rfl rfl rfl rfl) rfl rfl rfl rfl) rfl rfl rfl rfl) rfl rfl rfl rfl)
     refine eq_H (H' := [.vec z78α.1 (q0) z78.2.1.span.was.cells, .obj true z21 z22 (.dat (q2 z78α.1)) z78.2.1, .obj true z16 z17 (.dat (q1 z84α)) z87.2, .obj true z11 z12 (.dat (q2 z89α)) z93.2, .obj true z6 z7 (.dat (q1 z79α)) z82.2, .vec z79α (q0) z82.2.span.was.cells, .vec z84α (q0) z87.2.span.was.cells, .vec z89α (q0) z93.2.span.was.cells, .gone]) (by first | exact hB z95α S false e16 | (have q := hB z95α S false e16; simp only [cond_true, cond_false] at q; exact q)) ?_
     refine o_move rfl rfl guard_none (look_o rfl rfl) (fun _ => rfl) ?_
     apply h_endA (α := z95α) z95α
     ·exact (by (iterate 17 apply EqOn.same); exact .nil)
     ·exact rfl
     ·exact rfl
     ·exact rfl
     ·exact hB z95α (fun k => S k || Nat.beq k 12) false (or_f e16 rfl)
    ·intro z95α S hc hk hp
     have e16 : S 16 = false := (not_yet (j := 16) (q := 3) hc (not_yet (j := 15) (q := 0) hc (not_yet (j := 14) (q := 0) hc hk rfl rfl rfl rfl) rfl rfl rfl rfl) rfl rfl rfl rfl)
     refine eq_H (H' := [.vec z78α.1 (q0) z78.2.1.span.was.cells, .obj true z21 z22 (.dat (q2 z78α.1)) z78.2.1, .obj true z16 z17 (.dat (q1 z84α)) z87.2, .obj true z11 z12 (.dat (q2 z89α)) z93.2, .obj true z6 z7 (.dat (q1 z79α)) z82.2, .vec z79α (q0) z82.2.span.was.cells, .vec z84α (q0) z87.2.span.was.cells, .vec z89α (q0) z93.2.span.was.cells, .gone]) (by first | exact hB z95α S false e16 | (have q := hB z95α S false e16; simp only [cond_true, cond_false] at q; exact q)) ?_
     refine o_from (bind_eqO h_z98) ?_
     refine o_iaddr Try.underlying55 type67 rfl rfl (look_d rfl rfl (pr hp 0 rfl rfl)) (look_d rfl rfl (pr hp 1 rfl rfl)) rfl rfl (o_eqO ?_)
     apply h_endA (α := z95α) z95α
     ·exact (by (iterate 17 apply EqOn.same); exact .nil)
     ·exact rfl
     ·exact rfl
     ·exact rfl
     ·exact hB z95α (fun k => S k || Nat.beq k 13) false (or_f e16 rfl)
    ·intro z95α S hc hk hp
     have e16 : S 16 = false := (not_yet (j := 16) (q := 3) hc (not_yet (j := 15) (q := 0) hc hk rfl rfl rfl rfl) rfl rfl rfl rfl)
     refine eq_H (H' := [.vec z78α.1 (q0) z78.2.1.span.was.cells, .obj true z21 z22 (.dat (q2 z78α.1)) z78.2.1, .obj true z16 z17 (.dat (q1 z84α)) z87.2, .obj true z11 z12 (.dat (q2 z89α)) z93.2, .obj true z6 z7 (.dat (q1 z79α)) z82.2, .vec z79α (q0) z82.2.span.was.cells, .vec z84α (q0) z87.2.span.was.cells, .vec z89α (q0) z93.2.span.was.cells, .gone]) (by first | exact hB z95α S false e16 | (have q := hB z95α S false e16; simp only [cond_true, cond_false] at q; exact q)) ?_
     refine o_fptr field67_2 type4 (by decide) T_law16_Step_foc2 rfl rfl guard_none (look_d rfl rfl (pr hp 0 rfl rfl)) (fun _ => rfl) ?_
     apply h_endA (α := z95α) z95α
     ·exact (by (iterate 17 apply EqOn.same); exact .nil)
     ·exact rfl
     ·exact rfl
     ·exact rfl
     ·exact hB z95α (fun k => S k || Nat.beq k 14) false (or_f e16 rfl)
    ·intro z95α S hc hk hp
     have e16 : S 16 = false := (not_yet (j := 16) (q := 3) hc hk rfl rfl rfl rfl)
     refine eq_H (H' := [.vec z78α.1 (q0) z78.2.1.span.was.cells, .obj true z21 z22 (.dat (q2 z78α.1)) z78.2.1, .obj true z16 z17 (.dat (q1 z84α)) z87.2, .obj true z11 z12 (.dat (q2 z89α)) z93.2, .obj true z6 z7 (.dat (q1 z79α)) z82.2, .vec z79α (q0) z82.2.span.was.cells, .vec z84α (q0) z87.2.span.was.cells, .vec z89α (q0) z93.2.span.was.cells, .gone]) (by first | exact hB z95α S false e16 | (have q := hB z95α S false e16; simp only [cond_true, cond_false] at q; exact q)) ?_
     refine o_load type4 rfl rfl guard_none (look_d rfl rfl (pr hp 0 rfl rfl)) (fun _ => rfl) ?_
     apply h_endA (α := z95α) z95α
     ·exact (by (iterate 17 apply EqOn.same); exact .nil)
     ·exact rfl
     ·exact rfl
     ·exact rfl
     ·exact hB z95α (fun k => S k || Nat.beq k 15) false (or_f e16 rfl)
    ·intro z95α S hc hk hp
     refine eq_H (H' := [.vec z78α.1 (q0) z78.2.1.span.was.cells, .obj true z21 z22 (.dat (q2 z78α.1)) z78.2.1, .obj true z16 z17 (.dat (q1 z84α)) z87.2, .obj true z11 z12 (.dat (q2 z89α)) z93.2, .obj true z6 z7 (.dat (q1 z79α)) z82.2, .vec z79α (q0) z82.2.span.was.cells, .vec z84α (q0) z87.2.span.was.cells, .vec z89α (q0) z93.2.span.was.cells, .gone]) (by first | exact hB z95α S false hk | (have q := hB z95α S false hk; simp only [cond_true, cond_false] at q; exact q)) ?_
     refine o_from (bind_eqO h_z99) ?_
     refine o_weak (H' := [.vec z78α.1 (q0) z78.2.1.span.was.cells, .obj true z21 z22 (.dat (q2 z78α.1)) z78.2.1] ++ ([] ++ [.obj true z16 z17 (.dat (q1 z84α)) z87.2, .obj true z11 z12 (.dat (q2 z89α)) z93.2, .obj true z6 z7 (.dat (q1 z79α)) z82.2, .vec z79α (q0) z82.2.span.was.cells, .vec z84α (q0) z87.2.span.was.cells, .vec z89α (q0) z93.2.span.was.cells, .gone])) (sub_pick [0, 1, 2, 3, 4, 5, 6, 7, 8] rfl rfl) ?_
     refine o_callU rfl rfl rfl rfl rfl callable37 (looks_cons (look_d rfl rfl (pr hp 0 rfl rfl)) (fun _ => rfl) (looks_cons (look_d rfl rfl (pr hp 1 rfl rfl)) (fun _ => rfl) (looks_cons (look_d rfl rfl (pr hp 2 rfl rfl)) (fun _ => rfl) (looks_cons (look_d rfl rfl (pr hp 3 rfl rfl)) (fun _ => rfl) (looks_nil))))) .nil (window_Since_Step_ok _ _ _ z78.2.1 z96.At z97.F z98.G) (fun _ _ => (wr_v (wr_c wr_n))) (fun z100α => o_eqOH ?_)
     refine o_weak (H' := [.vec z100α (q0) z99.2.span.was.cells, .obj true z21 z22 (.dat (q2 z100α)) z99.2, .obj true z16 z17 (.dat (q1 z84α)) z87.2, .obj true z11 z12 (.dat (q2 z89α)) z93.2, .obj true z6 z7 (.dat (q1 z79α)) z82.2, .vec z79α (q0) z82.2.span.was.cells, .vec z84α (q0) z87.2.span.was.cells, .vec z89α (q0) z93.2.span.was.cells, .gone]) (sub_pick [0, 1, 2, 3, 4, 5, 6, 7, 8] rfl rfl) ?_
     refine o_weak sub_gone ?_
     refine o_weak (H' := [.gone, .obj true z21 z22 (.dat (q2 z100α)) z99.2, .obj true z16 z17 (.dat (q1 z84α)) z87.2, .obj true z11 z12 (.dat (q2 z89α)) z93.2, .obj true z6 z7 (.dat (q1 z79α)) z82.2, .vec z79α (q0) z82.2.span.was.cells, .vec z84α (q0) z87.2.span.was.cells, .vec z89α (q0) z93.2.span.was.cells, .vec z100α (q0) z99.2.span.was.cells]) (sub_pick [0, 2, 3, 4, 5, 6, 7, 8, 1] rfl rfl) ?_
     apply h_endA (α := z95α) z100α
     ·exact (by (iterate 17 apply EqOn.same); exact .nil)
     ·exact rfl
     ·exact rfl
     ·exact rfl
     ·exact hB z100α (fun k => S k || Nat.beq k 16) true (or_i rfl)
    refine den_weak (H' := [.obj true z21 z22 (.dat (q2 z95α)) z99.2, .obj true z16 z17 (.dat (q1 z84α)) z87.2, .obj true z11 z12 (.dat (q2 z89α)) z93.2, .obj true z6 z7 (.dat (q1 z79α)) z82.2, .vec z79α (q0) z82.2.span.was.cells, .vec z84α (q0) z87.2.span.was.cells, .vec z89α (q0) z93.2.span.was.cells, .vec z95α (q0) z99.2.span.was.cells]) (sub_pick [1, 2, 3, 4, 5, 6, 7, 8] rfl rfl) ?_
    refine den_blkend ?_
    refine den_region rfl ?_
    refine o_move rfl rfl guard_none (look_tmp rfl) (fun _ => rfl) ?_
    refine o_add rfl rfl guard_none (look_tmp rfl) (look_int rfl) (fun _ => rfl) (fun _ => rfl) ?_
    refine o_assign rfl rfl guard_none (look_tmp rfl) (fun _ => rfl) ?_
    refine o_end ?_
    refine den_nextA (z95α, z84α, z89α, z79α) ((Sub.trans (sub_pick [7, 0, 5, 1, 6, 2, 4, 3] rfl rfl) (sub_env (sube_cons rfl (sube_cons rfl (sube_cons rfl (sube_cons rfl (sube_cons rfl (sube_cons rfl (sube_cons rfl (sube_nil)))))))))))
   ·refine den_code_exit ?_
    refine dene_out rfl ?_
    refine dene_loopA (by simp) ?_
    refine dene_to rfl ?_
    refine den_endA (z78α.1, z78α.2.1, z78α.2.2.1, z78α.2.2.2) ((sub_env (sube_cons rfl (sube_cons rfl (sube_cons rfl (sube_cons rfl (sube_cons rfl (sube_nil))))))))
  refine den_seq ?_
  refine den_region rfl ?_
  refine o_move rfl rfl guard_none (look_tmp rfl) (fun _ => rfl) ?_
  refine o_weak (H' := [] ++ ([.vec z24α.2.2.2 (q0) z24.2.2.2.span.was.cells, .obj true z6 z7 (.dat (q1 z24α.2.2.2)) z24.2.2.2] ++ [.vec z24α.1 (q0) z24.1.span.was.cells, .obj true z21 z22 (.dat (q2 z24α.1)) z24.1, .vec z24α.2.1 (q0) z24.2.1.span.was.cells, .obj true z16 z17 (.dat (q1 z24α.2.1)) z24.2.1, .vec z24α.2.2.1 (q0) z24.2.2.1.span.was.cells, .obj true z11 z12 (.dat (q2 z24α.2.2.1)) z24.2.2.1])) (sub_pick [6, 7, 0, 1, 2, 3, 4, 5] rfl rfl) ?_
  refine o_callU rfl rfl rfl rfl rfl callable39 (looks_cons (look_tmp rfl) (fun _ => rfl) (looks_nil)) (.vec (.cons .nil)) (window_Once_Clone_ok _ _ _ z24.2.2.2) (fun _ _ => (wr_ol (fun _ => (wr_v (wr_c wr_n))) wr_n)) (fun z26α z25 => ?_)
  obtain ⟨⟨z27, z28⟩, z29⟩ := z26α
  rcases z25 with _ | z30
  ·refine o_weak (H' := [.vec z24α.2.2.2 (q0) z24.2.2.2.span.was.cells, .obj true z6 z7 (.dat (q1 z24α.2.2.2)) z24.2.2.2, .vec z24α.1 (q0) z24.1.span.was.cells, .obj true z21 z22 (.dat (q2 z24α.1)) z24.1, .vec z24α.2.1 (q0) z24.2.1.span.was.cells, .obj true z16 z17 (.dat (q1 z24α.2.1)) z24.2.1, .vec z24α.2.2.1 (q0) z24.2.2.1.span.was.cells, .obj true z11 z12 (.dat (q2 z24α.2.2.1)) z24.2.2.1]) (sub_pick [0, 1, 2, 3, 4, 5, 6, 7] rfl rfl) ?_
   refine o_asnil ?_
   refine o_optn ?_
   exact fun _ h => nomatch h
  ·refine o_weak (H' := [.vec z29 (q0) z30.span.was.cells, .obj true z27 z28 (.dat (q1 z29)) z30, .vec z24α.2.2.2 (q0) z24.2.2.2.span.was.cells, .obj true z6 z7 (.dat (q1 z24α.2.2.2)) z24.2.2.2, .vec z24α.1 (q0) z24.1.span.was.cells, .obj true z21 z22 (.dat (q2 z24α.1)) z24.1, .vec z24α.2.1 (q0) z24.2.1.span.was.cells, .obj true z16 z17 (.dat (q1 z24α.2.1)) z24.2.1, .vec z24α.2.2.1 (q0) z24.2.2.1.span.was.cells, .obj true z11 z12 (.dat (q2 z24α.2.2.1)) z24.2.2.1]) (sub_pick [0, 1, 2, 3, 4, 5, 6, 7, 8, 9] rfl rfl) ?_
   refine o_asptr ?_
   refine o_opts ?_
   refine o_move rfl rfl guard_none (look_tmp rfl) (fun _ => rfl) ?_
   refine o_weak (H' := [] ++ ([.vec z24α.2.2.1 (q0) z24.2.2.1.span.was.cells, .obj true z11 z12 (.dat (q2 z24α.2.2.1)) z24.2.2.1] ++ [.vec z29 (q0) z30.span.was.cells, .obj true z27 z28 (.dat (q1 z29)) z30, .vec z24α.2.2.2 (q0) z24.2.2.2.span.was.cells, .obj true z6 z7 (.dat (q1 z24α.2.2.2)) z24.2.2.2, .vec z24α.1 (q0) z24.1.span.was.cells, .obj true z21 z22 (.dat (q2 z24α.1)) z24.1, .vec z24α.2.1 (q0) z24.2.1.span.was.cells, .obj true z16 z17 (.dat (q1 z24α.2.1)) z24.2.1])) (sub_pick [8, 9, 0, 1, 2, 3, 4, 5, 6, 7] rfl rfl) ?_
   refine o_callU rfl rfl rfl rfl rfl callable40 (looks_cons (look_tmp rfl) (fun _ => rfl) (looks_nil)) (.vec (.cons .nil)) (window_Since_Clone_ok _ _ _ z24.2.2.1) (fun _ _ => (wr_ol (fun _ => (wr_v (wr_c wr_n))) wr_n)) (fun z32α z31 => ?_)
   obtain ⟨⟨z33, z34⟩, z35⟩ := z32α
   rcases z31 with _ | z36
   ·refine o_weak (H' := [.vec z24α.2.2.1 (q0) z24.2.2.1.span.was.cells, .obj true z11 z12 (.dat (q2 z24α.2.2.1)) z24.2.2.1, .vec z29 (q0) z30.span.was.cells, .obj true z27 z28 (.dat (q1 z29)) z30, .vec z24α.2.2.2 (q0) z24.2.2.2.span.was.cells, .obj true z6 z7 (.dat (q1 z24α.2.2.2)) z24.2.2.2, .vec z24α.1 (q0) z24.1.span.was.cells, .obj true z21 z22 (.dat (q2 z24α.1)) z24.1, .vec z24α.2.1 (q0) z24.2.1.span.was.cells, .obj true z16 z17 (.dat (q1 z24α.2.1)) z24.2.1]) (sub_pick [0, 1, 2, 3, 4, 5, 6, 7, 8, 9] rfl rfl) ?_
    refine o_asnil ?_
    refine o_optn ?_
    exact fun _ h => nomatch h
   ·refine o_weak (H' := [.vec z35 (q0) z36.span.was.cells, .obj true z33 z34 (.dat (q2 z35)) z36, .vec z24α.2.2.1 (q0) z24.2.2.1.span.was.cells, .obj true z11 z12 (.dat (q2 z24α.2.2.1)) z24.2.2.1, .vec z29 (q0) z30.span.was.cells, .obj true z27 z28 (.dat (q1 z29)) z30, .vec z24α.2.2.2 (q0) z24.2.2.2.span.was.cells, .obj true z6 z7 (.dat (q1 z24α.2.2.2)) z24.2.2.2, .vec z24α.1 (q0) z24.1.span.was.cells, .obj true z21 z22 (.dat (q2 z24α.1)) z24.1, .vec z24α.2.1 (q0) z24.2.1.span.was.cells, .obj true z16 z17 (.dat (q1 z24α.2.1)) z24.2.1]) (sub_pick [0, 1, 2, 3, 4, 5, 6, 7, 8, 9, 10, 11] rfl rfl) ?_
    refine o_asptr ?_
    refine o_opts ?_
    refine o_assign rfl rfl guard_none (look_tmp rfl) (fun _ => rfl) ?_
    refine o_assign rfl rfl guard_none (look_tmp rfl) (fun _ => rfl) ?_
    refine o_end ?_
    refine den_seq ?_
    refine den_seq ?_
    refine den_region rfl ?_
    refine o_assign rfl rfl guard_none (look_int rfl) (fun _ => rfl) ?_
    refine o_end ?_
    refine den_both (fun z37 => []) (fun z37 => []) ?_ (fun z37 => ?_)
    ·refine den_block ?_
     refine den_loopA (A := (Value × Value × Value × Value × Value × Value)) (law16_WindowClones_L1b z3) (fun z38α z38 => [(16, ⟨Rep.int .i64, z38.1, true⟩), (3, ⟨(T_law16_Step_rep).slice, z3, true⟩), (9, ⟨Rep.addr, (z6, z7), true⟩), (10, ⟨Rep.addr, (z11, z12), true⟩), (11, ⟨Rep.addr, (z16, z17), true⟩), (12, ⟨Rep.addr, (z21, z22), true⟩), (14, ⟨Rep.addr, (z27, z28), true⟩), (15, ⟨Rep.addr, (z33, z34), true⟩)]) (fun z38α z38 => [.vec z38α.1 (q0) z38.2.1.span.was.cells, .obj true z33 z34 (.dat (q2 z38α.1)) z38.2.1, .vec z38α.2.1 (q0) z38.2.2.1.span.was.cells, .obj true z11 z12 (.dat (q2 z38α.2.1)) z38.2.2.1, .vec z38α.2.2.1 (q0) z38.2.2.2.1.span.was.cells, .obj true z27 z28 (.dat (q1 z38α.2.2.1)) z38.2.2.2.1, .vec z38α.2.2.2.1 (q0) z38.2.2.2.2.1.span.was.cells, .obj true z6 z7 (.dat (q1 z38α.2.2.2.1)) z38.2.2.2.2.1, .vec z38α.2.2.2.2.1 (q0) z38.2.2.2.2.2.1.span.was.cells, .obj true z21 z22 (.dat (q2 z38α.2.2.2.2.1)) z38.2.2.2.2.2.1, .vec z38α.2.2.2.2.2 (q0) z38.2.2.2.2.2.2.span.was.cells, .obj true z16 z17 (.dat (q1 z38α.2.2.2.2.2)) z38.2.2.2.2.2.2]) (0, z36, z24.2.2.1, z30, z24.2.2.2, z24.1, z24.2.1) (z35, z24α.2.2.1, z29, z24α.2.2.2, z24α.1, z24α.2.1) (fun z38α z38 => ?_) ((sub_env (sube_cons rfl (sube_cons rfl (sube_cons rfl (sube_cons rfl (sube_cons rfl (sube_cons rfl (sube_cons rfl (sube_cons rfl (sube_nil)))))))))))
     refine den_seq ?_
     refine den_seq ?_
     refine den_region rfl ?_
     refine o_move rfl rfl guard_none (look_tmp rfl) (fun _ => rfl) ?_
     refine o_move rfl rfl guard_none (look_tmp rfl) (fun _ => rfl) ?_
     refine o_llen Try.underlying55 rfl rfl guard_none (look_tmp rfl) (fun _ => rfl) ?_
     refine o_lss rfl rfl guard_none (look_tmp rfl) (look_tmp rfl) (fun _ => rfl) (fun _ => rfl) ?_
     refine o_end ?_
     refine den_cond (look_tmp rfl) ?_ ?_
     ·refine den_skip ?_
      refine den_seq ?_
      refine den_block ?_
      refine den_seq ?_
      refine den_open (fun z40 h_z40 => ?_)
      refine den_open (fun z41 h_z41 => ?_)
      refine den_open (fun z42 h_z42 => ?_)
      have hB : ∀ (z39α : Value) (S : Nat → Bool) (b12 : Bool), S 12 = b12 → (([.vec z38α.1 (q0) z38.2.1.span.was.cells, .obj true z33 z34 (.dat (q2 z38α.1)) z38.2.1, .vec z38α.2.1 (q0) z38.2.2.1.span.was.cells, .obj true z11 z12 (.dat (q2 z38α.2.1)) z38.2.2.1, .vec z38α.2.2.1 (q0) z38.2.2.2.1.span.was.cells, .obj true z27 z28 (.dat (q1 z38α.2.2.1)) z38.2.2.2.1, (cond (S 12) (.gone) (.vec z38α.2.2.2.1 (q0) z38.2.2.2.2.1.span.was.cells)), (cond (S 12) (.obj true z6 z7 (.dat (q1 z39α)) z42.2) (.obj true z6 z7 (.dat (q1 z38α.2.2.2.1)) z38.2.2.2.2.1)), .vec z38α.2.2.2.2.1 (q0) z38.2.2.2.2.2.1.span.was.cells, .obj true z21 z22 (.dat (q2 z38α.2.2.2.2.1)) z38.2.2.2.2.2.1, .vec z38α.2.2.2.2.2 (q0) z38.2.2.2.2.2.2.span.was.cells, .obj true z16 z17 (.dat (q1 z38α.2.2.2.2.2)) z38.2.2.2.2.2.2, (cond (S 12) (.vec (z39α) (q0) z42.2.span.was.cells) (.gone))] : List Go.Eng.Item)) = ([.vec z38α.1 (q0) z38.2.1.span.was.cells, .obj true z33 z34 (.dat (q2 z38α.1)) z38.2.1, .vec z38α.2.1 (q0) z38.2.2.1.span.was.cells, .obj true z11 z12 (.dat (q2 z38α.2.1)) z38.2.2.1, .vec z38α.2.2.1 (q0) z38.2.2.2.1.span.was.cells, .obj true z27 z28 (.dat (q1 z38α.2.2.1)) z38.2.2.2.1, (cond b12 (.gone) (.vec z38α.2.2.2.1 (q0) z38.2.2.2.2.1.span.was.cells)), (cond b12 (.obj true z6 z7 (.dat (q1 z39α)) z42.2) (.obj true z6 z7 (.dat (q1 z38α.2.2.2.1)) z38.2.2.2.2.1)), .vec z38α.2.2.2.2.1 (q0) z38.2.2.2.2.2.1.span.was.cells, .obj true z21 z22 (.dat (q2 z38α.2.2.2.2.1)) z38.2.2.2.2.2.1, .vec z38α.2.2.2.2.2 (q0) z38.2.2.2.2.2.2.span.was.cells, .obj true z16 z17 (.dat (q1 z38α.2.2.2.2.2)) z38.2.2.2.2.2.2, (cond b12 (.vec (z39α) (q0) z42.2.span.was.cells) (.gone))] : List Go.Eng.Item) := fun z39α S b12 h12 => by subst h12; rfl
      refine den_weak sub_gone ?_
      refine den_weak (sub_pick (H' := [.vec z38α.1 (q0) z38.2.1.span.was.cells, .obj true z33 z34 (.dat (q2 z38α.1)) z38.2.1, .vec z38α.2.1 (q0) z38.2.2.1.span.was.cells, .obj true z11 z12 (.dat (q2 z38α.2.1)) z38.2.2.1, .vec z38α.2.2.1 (q0) z38.2.2.2.1.span.was.cells, .obj true z27 z28 (.dat (q1 z38α.2.2.1)) z38.2.2.2.1, .vec z38α.2.2.2.1 (q0) z38.2.2.2.2.1.span.was.cells, .obj true z6 z7 (.dat (q1 z38α.2.2.2.1)) z38.2.2.2.2.1, .vec z38α.2.2.2.2.1 (q0) z38.2.2.2.2.2.1.span.was.cells, .obj true z21 z22 (.dat (q2 z38α.2.2.2.2.1)) z38.2.2.2.2.2.1, .vec z38α.2.2.2.2.2 (q0) z38.2.2.2.2.2.2.span.was.cells, .obj true z16 z17 (.dat (q1 z38α.2.2.2.2.2)) z38.2.2.2.2.2.2, .gone]) [1, 2, 3, 4, 5, 6, 7, 8, 9, 10, 11, 12, 0] rfl rfl) ?_
      refine den_drawA (A := Value) (H' := fun z39α => [.vec z38α.1 (q0) z38.2.1.span.was.cells, .obj true z33 z34 (.dat (q2 z38α.1)) z38.2.1, .vec z38α.2.1 (q0) z38.2.2.1.span.was.cells, .obj true z11 z12 (.dat (q2 z38α.2.1)) z38.2.2.1, .vec z38α.2.2.1 (q0) z38.2.2.2.1.span.was.cells, .obj true z27 z28 (.dat (q1 z38α.2.2.1)) z38.2.2.2.1, .gone, .obj true z6 z7 (.dat (q1 z39α)) z42.2, .vec z38α.2.2.2.2.1 (q0) z38.2.2.2.2.2.1.span.was.cells, .obj true z21 z22 (.dat (q2 z38α.2.2.2.2.1)) z38.2.2.2.2.2.1, .vec z38α.2.2.2.2.2 (q0) z38.2.2.2.2.2.2.span.was.cells, .obj true z16 z17 (.dat (q1 z38α.2.2.2.2.2)) z38.2.2.2.2.2.2, .vec (z39α) (q0) z42.2.span.was.cells]) (fun z39α => [(113, ⟨Rep.addr, (z6, z7), true⟩), (114, ⟨(T_law16_Step_rep).slice, z3, true⟩), (115, ⟨Rep.int .i64, z38.1, true⟩), (116, ⟨(T_law16_Step_rep).ptrTo, z40, true⟩), (117, ⟨(Rep.int .i64).ptrTo, z40.At, true⟩), (118, ⟨Rep.int .i64, z40.At, true⟩), (119, ⟨(T_law16_Step_rep).slice, z3, true⟩), (120, ⟨Rep.int .i64, z38.1, true⟩), (121, ⟨(T_law16_Step_rep).ptrTo, z41, true⟩), (122, ⟨(Rep.bool).ptrTo, z41.F, true⟩), (123, ⟨Rep.bool, z41.F, true⟩), (124, ⟨Rep.bool, !z41.F, true⟩), (125, ⟨Rep.bool, z42.1, true⟩)]) (fun z39α S => [.vec z38α.1 (q0) z38.2.1.span.was.cells, .obj true z33 z34 (.dat (q2 z38α.1)) z38.2.1, .vec z38α.2.1 (q0) z38.2.2.1.span.was.cells, .obj true z11 z12 (.dat (q2 z38α.2.1)) z38.2.2.1, .vec z38α.2.2.1 (q0) z38.2.2.2.1.span.was.cells, .obj true z27 z28 (.dat (q1 z38α.2.2.1)) z38.2.2.2.1, (cond (S 12) (.gone) (.vec z38α.2.2.2.1 (q0) z38.2.2.2.2.1.span.was.cells)), (cond (S 12) (.obj true z6 z7 (.dat (q1 z39α)) z42.2) (.obj true z6 z7 (.dat (q1 z38α.2.2.2.1)) z38.2.2.2.2.1)), .vec z38α.2.2.2.2.1 (q0) z38.2.2.2.2.2.1.span.was.cells, .obj true z21 z22 (.dat (q2 z38α.2.2.2.2.1)) z38.2.2.2.2.2.1, .vec z38α.2.2.2.2.2 (q0) z38.2.2.2.2.2.2.span.was.cells, .obj true z16 z17 (.dat (q1 z38α.2.2.2.2.2)) z38.2.2.2.2.2.2, (cond (S 12) (.vec (z39α) (q0) z42.2.span.was.cells) (.gone))]) (Value.slice none 0 0) mixed (fun _ => rfl) rfl rfl (fun z39α S hS => hB z39α S true (hS 12 (by decide))) ⟨?_, ?_, ?_, ?_, ?_, ?_, ?_, ?_, ?_, ?_, ?_, ?_, ?_, trivial⟩ (fun z39α => ?_)
      ·intro z39α S hc hk hp
       have e12 : S 12 = false := (not_yet (j := 12) (q := 0) hc hk rfl rfl rfl rfl)
       refine eq_H (H' := [.vec z38α.1 (q0) z38.2.1.span.was.cells, .obj true z33 z34 (.dat (q2 z38α.1)) z38.2.1, .vec z38α.2.1 (q0) z38.2.2.1.span.was.cells, .obj true z11 z12 (.dat (q2 z38α.2.1)) z38.2.2.1, .vec z38α.2.2.1 (q0) z38.2.2.2.1.span.was.cells, .obj true z27 z28 (.dat (q1 z38α.2.2.1)) z38.2.2.2.1, .vec z38α.2.2.2.1 (q0) z38.2.2.2.2.1.span.was.cells, .obj true z6 z7 (.dat (q1 z38α.2.2.2.1)) z38.2.2.2.2.1, .vec z38α.2.2.2.2.1 (q0) z38.2.2.2.2.2.1.span.was.cells, .obj true z21 z22 (.dat (q2 z38α.2.2.2.2.1)) z38.2.2.2.2.2.1, .vec z38α.2.2.2.2.2 (q0) z38.2.2.2.2.2.2.span.was.cells, .obj true z16 z17 (.dat (q1 z38α.2.2.2.2.2)) z38.2.2.2.2.2.2, .gone]) (by first | exact hB z39α S false e12 | (have q := hB z39α S false e12; simp only [cond_true, cond_false] at q; exact q)) ?_
       refine o_move rfl rfl guard_none (look_o rfl rfl) (fun _ => rfl) ?_
       apply h_endA (α := z39α) z39α
       ·exact (by (iterate 13 apply EqOn.same); exact .nil)
       ·exact rfl
       ·exact rfl
       ·exact rfl
       ·exact hB z39α (fun k => S k || Nat.beq k 0) false (or_f e12 rfl)
      ·intro z39α S hc hk hp
       have e12 : S 12 = false := (not_yet (j := 12) (q := 1) hc (not_yet (j := 5) (q := 0) hc (not_yet (j := 4) (q := 0) hc (not_yet (j := 3) (q := 0) hc hk rfl rfl rfl rfl) rfl rfl rfl rfl) rfl rfl rfl rfl) rfl rfl rfl rfl)
       refine eq_H (H' := [.vec z38α.1 (q0) z38.2.1.span.was.cells, .obj true z33 z34 (.dat (q2 z38α.1)) z38.2.1, .vec z38α.2.1 (q0) z38.2.2.1.span.was.cells, .obj true z11 z12 (.dat (q2 z38α.2.1)) z38.2.2.1, .vec z38α.2.2.1 (q0) z38.2.2.2.1.span.was.cells, .obj true z27 z28 (.dat (q1 z38α.2.2.1)) z38.2.2.2.1, .vec z38α.2.2.2.1 (q0) z38.2.2.2.2.1.span.was.cells, .obj true z6 z7 (.dat (q1 z38α.2.2.2.1)) z38.2.2.2.2.1, .vec z38α.2.2.2.2.1 (q0) z38.2.2.2.2.2.1.span.was.cells, .obj true z21 z22 (.dat (q2 z38α.2.2.2.2.1)) z38.2.2.2.2.2.1, .vec z38α.2.2.2.2.2 (q0) z38.2.2.2.2.2.2.span.was.cells, .obj true z16 z17 (.dat (q1 z38α.2.2.2.2.2)) z38.2.2.2.2.2.2, .gone]) (by first | exact hB z39α S false e12 | (have q := hB z39α S false e12; simp only [cond_true, cond_false] at q; exact q)) ?_
       refine o_move rfl rfl guard_none (look_o rfl rfl) (fun _ => rfl) ?_
       apply h_endA (α := z39α) z39α
       ·exact (by (iterate 13 apply EqOn.same); exact .nil)
       ·exact rfl
       ·exact rfl
       ·exact rfl
       ·exact hB z39α (fun k => S k || Nat.beq k 1) false (or_f e12 rfl)
      ·intro z39α S hc hk hp
       have e12 : S 12 = false := (not_yet (j := 12) (q := 1) hc (not_yet (j := 5) (q := 0) hc (not_yet (j := 4) (q := 0) hc (not_yet (j := 3) (q := 1) hc hk rfl rfl rfl rfl) rfl rfl rfl rfl) rfl rfl rfl rfl) rfl rfl rfl rfl)
       refine eq_H (H' := [.vec z38α.1 (q0) z38.2.1.span.was.cells, .obj true z33 z34 (.dat (q2 z38α.1)) z38.2.1, .vec z38α.2.1 (q0) z38.2.2.1.span.was.cells, .obj true z11 z12 (.dat (q2 z38α.2.1)) z38.2.2.1, .vec z38α.2.2.1 (q0) z38.2.2.2.1.span.was.cells, .obj true z27 z28 (.dat (q1 z38α.2.2.1)) z38.2.2.2.1, .vec z38α.2.2.2.1 (q0) z38.2.2.2.2.1.span.was.cells, .obj true z6 z7 (.dat (q1 z38α.2.2.2.1)) z38.2.2.2.2.1, .vec z38α.2.2.2.2.1 (q0) z38.2.2.2.2.2.1.span.was.cells, .obj true z21 z22 (.dat (q2 z38α.2.2.2.2.1)) z38.2.2.2.2.2.1, .vec z38α.2.2.2.2.2 (q0) z38.2.2.2.2.2.2.span.was.cells, .obj true z16 z17 (.dat (q1 z38α.2.2.2.2.2)) z38.2.2.2.2.2.2, .gone]) (by first | exact hB z39α S false e12 | (have q := hB z39α S false e12; simp only [cond_true, cond_false] at q; exact q)) ?_
       refine o_move rfl rfl guard_none (look_o rfl rfl) (fun _ => rfl) ?_
       apply h_endA (α := z39α) z39α
       ·exact (by (iterate 13 apply EqOn.same); exact .nil)
       ·exact rfl
       ·exact rfl
       ·exact rfl
       ·exact hB z39α (fun k => S k || Nat.beq k 2) false (or_f e12 rfl)
      ·intro z39α S hc hk hp
       have e12 : S 12 = false := (not_yet (j := 12) (q := 1) hc (not_yet (j := 5) (q := 0) hc (not_yet (j := 4) (q := 0) hc hk rfl rfl rfl rfl) rfl rfl rfl rfl) rfl rfl rfl rfl)
       refine eq_H (H' := [.vec z38α.1 (q0) z38.2.1.span.was.cells, .obj true z33 z34 (.dat (q2 z38α.1)) z38.2.1, .vec z38α.2.1 (q0) z38.2.2.1.span.was.cells, .obj true z11 z12 (.dat (q2 z38α.2.1)) z38.2.2.1, .vec z38α.2.2.1 (q0) z38.2.2.2.1.span.was.cells, .obj true z27 z28 (.dat (q1 z38α.2.2.1)) z38.2.2.2.1, .vec z38α.2.2.2.1 (q0) z38.2.2.2.2.1.span.was.cells, .obj true z6 z7 (.dat (q1 z38α.2.2.2.1)) z38.2.2.2.2.1, .vec z38α.2.2.2.2.1 (q0) z38.2.2.2.2.2.1.span.was.cells, .obj true z21 z22 (.dat (q2 z38α.2.2.2.2.1)) z38.2.2.2.2.2.1, .vec z38α.2.2.2.2.2 (q0) z38.2.2.2.2.2.2.span.was.cells, .obj true z16 z17 (.dat (q1 z38α.2.2.2.2.2)) z38.2.2.2.2.2.2, .gone]) (by first | exact hB z39α S false e12 | (have q := hB z39α S false e12; simp only [cond_true, cond_false] at q; exact q)) ?_
       refine o_from (bind_eqO h_z40) ?_
       refine o_iaddr Try.underlying55 type67 rfl rfl (look_d rfl rfl (pr hp 0 rfl rfl)) (look_d rfl rfl (pr hp 1 rfl rfl)) rfl rfl (o_eqO ?_)
       apply h_endA (α := z39α) z39α
       ·exact (by (iterate 13 apply EqOn.same); exact .nil)
       ·exact rfl
       ·exact rfl
       ·exact rfl
       ·exact hB z39α (fun k => S k || Nat.beq k 3) false (or_f e12 rfl)
      ·intro z39α S hc hk hp
       have e12 : S 12 = false := (not_yet (j := 12) (q := 1) hc (not_yet (j := 5) (q := 0) hc hk rfl rfl rfl rfl) rfl rfl rfl rfl)
       refine eq_H (H' := [.vec z38α.1 (q0) z38.2.1.span.was.cells, .obj true z33 z34 (.dat (q2 z38α.1)) z38.2.1, .vec z38α.2.1 (q0) z38.2.2.1.span.was.cells, .obj true z11 z12 (.dat (q2 z38α.2.1)) z38.2.2.1, .vec z38α.2.2.1 (q0) z38.2.2.2.1.span.was.cells, .obj true z27 z28 (.dat (q1 z38α.2.2.1)) z38.2.2.2.1, .vec z38α.2.2.2.1 (q0) z38.2.2.2.2.1.span.was.cells, .obj true z6 z7 (.dat (q1 z38α.2.2.2.1)) z38.2.2.2.2.1, .vec z38α.2.2.2.2.1 (q0) z38.2.2.2.2.2.1.span.was.cells, .obj true z21 z22 (.dat (q2 z38α.2.2.2.2.1)) z38.2.2.2.2.2.1, .vec z38α.2.2.2.2.2 (q0) z38.2.2.2.2.2.2.span.was.cells, .obj true z16 z17 (.dat (q1 z38α.2.2.2.2.2)) z38.2.2.2.2.2.2, .gone]) (by first | exact hB z39α S false e12 | (have q := hB z39α S false e12; simp only [cond_true, cond_false] at q; exact q)) ?_
       refine o_fptr field67_0 type2 (by decide) T_law16_Step_foc0 rfl rfl guard_none (look_d rfl rfl (pr hp 0 rfl rfl)) (fun _ => rfl) ?_
       apply h_endA (α := z39α) z39α
       ·exact (by (iterate 13 apply EqOn.same); exact .nil)
       ·exact rfl
       ·exact rfl
       ·exact rfl
       ·exact hB z39α (fun k => S k || Nat.beq k 4) false (or_f e12 rfl)
      ·intro z39α S hc hk hp
       have e12 : S 12 = false := (not_yet (j := 12) (q := 1) hc hk rfl rfl rfl rfl)
       refine eq_H (H' := [.vec z38α.1 (q0) z38.2.1.span.was.cells, .obj true z33 z34 (.dat (q2 z38α.1)) z38.2.1, .vec z38α.2.1 (q0) z38.2.2.1.span.was.cells, .obj true z11 z12 (.dat (q2 z38α.2.1)) z38.2.2.1, .vec z38α.2.2.1 (q0) z38.2.2.2.1.span.was.cells, .obj true z27 z28 (.dat (q1 z38α.2.2.1)) z38.2.2.2.1, .vec z38α.2.2.2.1 (q0) z38.2.2.2.2.1.span.was.cells, .obj true z6 z7 (.dat (q1 z38α.2.2.2.1)) z38.2.2.2.2.1, .vec z38α.2.2.2.2.1 (q0) z38.2.2.2.2.2.1.span.was.cells, .obj true z21 z22 (.dat (q2 z38α.2.2.2.2.1)) z38.2.2.2.2.2.1, .vec z38α.2.2.2.2.2 (q0) z38.2.2.2.2.2.2.span.was.cells, .obj true z16 z17 (.dat (q1 z38α.2.2.2.2.2)) z38.2.2.2.2.2.2, .gone]) (by first | exact hB z39α S false e12 | (have q := hB z39α S false e12; simp only [cond_true, cond_false] at q; exact q)) ?_
       refine o_load type2 rfl rfl guard_none (look_d rfl rfl (pr hp 0 rfl rfl)) (fun _ => rfl) ?_
       apply h_endA (α := z39α) z39α
       ·exact (by (iterate 13 apply EqOn.same); exact .nil)
       ·exact rfl
       ·exact rfl
       ·exact rfl
       ·exact hB z39α (fun k => S k || Nat.beq k 5) false (or_f e12 rfl)
      ·intro z39α S hc hk hp
       have e12 : S 12 = false := (not_yet (j := 12) (q := 2) hc (not_yet (j := 11) (q := 0) hc (not_yet (j := 10) (q := 0) hc (not_yet (j := 9) (q := 0) hc (not_yet (j := 8) (q := 0) hc hk rfl rfl rfl rfl) rfl rfl rfl rfl) rfl rfl rfl rfl) rfl rfl rfl rfl) rfl rfl rfl rfl)
       refine eq_H (H' := [.vec z38α.1 (q0) z38.2.1.span.was.cells, .obj true z33 z34 (.dat (q2 z38α.1)) z38.2.1, .vec z38α.2.1 (q0) z38.2.2.1.span.was.cells, .obj true z11 z12 (.dat (q2 z38α.2.1)) z38.2.2.1, .vec z38α.2.2.1 (q0) z38.2.2.2.1.span.was.cells, .obj true z27 z28 (.dat (q1 z38α.2.2.1)) z38.2.2.2.1, .vec z38α.2.2.2.1 (q0) z38.2.2.2.2.1.span.was.cells, .obj true z6 z7 (.dat (q1 z38α.2.2.2.1)) z38.2.2.2.2.1, .vec z38α.2.2.2.2.1 (q0) z38.2.2.2.2.2.1.span.was.cells, .obj true z21 z22 (.dat (q2 z38α.2.2.2.2.1)) z38.2.2.2.2.2.1, .vec z38α.2.2.2.2.2 (q0) z38.2.2.2.2.2.2.span.was.cells, .obj true z16 z17 (.dat (q1 z38α.2.2.2.2.2)) z38.2.2.2.2.2.2, .gone]) (by first | exact hB z39α S false e12 | (have q := hB z39α S false e12; simp only [cond_true, cond_false] at q; exact q)) ?_
       refine o_move rfl rfl guard_none (look_o rfl rfl) (fun _ => rfl) ?_
       apply h_endA (α := z39α) z39α
       ·exact (by (iterate 13 apply EqOn.same); exact .nil)
       ·exact rfl
       ·exact rfl
       ·exact rfl
       ·exact hB z39α (fun k => S k || Nat.beq k 6) false (or_f e12 rfl)
      ·intro z39α S hc hk hp
       have e12 : S 12 = false := (not_yet (j := 12) (q := 2) hc (not_yet (j := 11) (q := 0) hc (not_yet (j := 10) (q := 0) hc (not_yet (j := 9) (q := 0) hc (not_yet (j := 8) (q := 1) hc hk rfl rfl rfl rfl) rfl rfl rfl rfl) rfl rfl rfl rfl) rfl rfl rfl rfl) rfl rfl rfl rfl)
       refine eq_H (H' := [.vec z38α.1 (q0) z38.2.1.span.was.cells, .obj true z33 z34 (.dat (q2 z38α.1)) z38.2.1, .vec z38α.2.1 (q0) z38.2.2.1.span.was.cells, .obj true z11 z12 (.dat (q2 z38α.2.1)) z38.2.2.1, .vec z38α.2.2.1 (q0) z38.2.2.2.1.span.was.cells, .obj true z27 z28 (.dat (q1 z38α.2.2.1)) z38.2.2.2.1, .vec z38α.2.2.2.1 (q0) z38.2.2.2.2.1.span.was.cells, .obj true z6 z7 (.dat (q1 z38α.2.2.2.1)) z38.2.2.2.2.1, .vec z38α.2.2.2.2.1 (q0) z38.2.2.2.2.2.1.span.was.cells, .obj true z21 z22 (.dat (q2 z38α.2.2.2.2.1)) z38.2.2.2.2.2.1, .vec z38α.2.2.2.2.2 (q0) z38.2.2.2.2.2.2.span.was.cells, .obj true z16 z17 (.dat (q1 z38α.2.2.2.2.2)) z38.2.2.2.2.2.2, .gone]) (by first | exact hB z39α S false e12 | (have q := hB z39α S false e12; simp only [cond_true, cond_false] at q; exact q)) ?_
       refine o_move rfl rfl guard_none (look_o rfl rfl) (fun _ => rfl) ?_
       apply h_endA (α := z39α) z39α
       ·exact (by (iterate 13 apply EqOn.same); exact .nil)
       ·exact rfl
       ·exact rfl
       ·exact rfl
       ·exact hB z39α (fun k => S k || Nat.beq k 7) false (or_f e12 rfl)
      ·intro z39α S hc hk hp
       have e12 : S 12 = false := (not_yet (j := 12) (q := 2) hc (not_yet (j := 11) (q := 0) hc (not_yet (j := 10) (q := 0) hc (not_yet (j := 9) (q := 0) hc hk rfl rfl rfl rfl) rfl rfl rfl rfl) rfl rfl rfl rfl) rfl rfl rfl rfl)
       refine eq_H (H' := [.vec z38α.1 (q0) z38.2.1.span.was.cells, .obj true z33 z34 (.dat (q2 z38α.1)) z38.2.1, .vec z38α.2.1 (q0) z38.2.2.1.span.was.cells, .obj true z11 z12 (.dat (q2 z38α.2.1)) z38.2.2.1, .vec z38α.2.2.1 (q0) z38.2.2.2.1.span.was.cells, .obj true z27 z28 (.dat (q1 z38α.2.2.1)) z38.2.2.2.1, .vec z38α.2.2.2.1 (q0) z38.2.2.2.2.1.span.was.cells, .obj true z6 z7 (.dat (q1 z38α.2.2.2.1)) z38.2.2.2.2.1, .vec z38α.2.2.2.2.1 (q0) z38.2.2.2.2.2.1.span.was.cells, .obj true z21 z22 (.dat (q2 z38α.2.2.2.2.1)) z38.2.2.2.2.2.1, .vec z38α.2.2.2.2.2 (q0) z38.2.2.2.2.2.2.span.was.cells, .obj true z16 z17 (.dat (q1 z38α.2.2.2.2.2)) z38.2.2.2.2.2.2, .gone]) (by first | exact hB z39α S false e12 | (have q := hB z39α S false e12; simp only [cond_true, cond_false] at q; exact q)) ?_
       refine o_from (bind_eqO h_z41) ?_
       refine o_iaddr Try.underlying55 type67 rfl rfl (look_d rfl rfl (pr hp 0 rfl rfl)) (look_d rfl rfl (pr hp 1 rfl rfl)) rfl rfl (o_eqO ?_)
       apply h_endA (α := z39α) z39α
       ·exact (by (iterate 13 apply EqOn.same); exact .nil)
       ·exact rfl
       ·exact rfl
       ·exact rfl
       ·exact hB z39α (fun k => S k || Nat.beq k 8) false (or_f e12 rfl)
      ·intro z39α S hc hk hp
       have e12 : S 12 = false := (not_yet (j := 12) (q := 2) hc (not_yet (j := 11) (q := 0) hc (not_yet (j := 10) (q := 0) hc hk rfl rfl rfl rfl) rfl rfl rfl rfl) rfl rfl rfl rfl)
       refine eq_H (H' := [.vec z38α.1 (q0) z38.2.1.span.was.cells, .obj true z33 z34 (.dat (q2 z38α.1)) z38.2.1, .vec z38α.2.1 (q0) z38.2.2.1.span.was.cells, .obj true z11 z12 (.dat (q2 z38α.2.1)) z38.2.2.1, .vec z38α.2.2.1 (q0) z38.2.2.2.1.span.was.cells, .obj true z27 z28 (.dat (q1 z38α.2.2.1)) z38.2.2.2.1, .vec z38α.2.2.2.1 (q0) z38.2.2.2.2.1.span.was.cells, .obj true z6 z7 (.dat (q1 z38α.2.2.2.1)) z38.2.2.2.2.1, .vec z38α.2.2.2.2.1 (q0) z38.2.2.2.2.2.1.span.was.cells, .obj true z21 z22 (.dat (q2 z38α.2.2.2.2.1)) z38.2.2.2.2.2.1, .vec z38α.2.2.2.2.2 (q0) z38.2.2.2.2.2.2.span.was.cells, .obj true z16 z17 (.dat (q1 z38α.2.2.2.2.2)) z38.2.2.2.2.2.2, .gone]) (by first | exact hB z39α S false e12 | (have q := hB z39α S false e12; simp only [cond_true, cond_false] at q; exact q)) ?_
       refine o_fptr field67_1 type4 (by decide) T_law16_Step_foc1 rfl rfl guard_none (look_d rfl rfl (pr hp 0 rfl rfl)) (fun _ => rfl) ?_
       apply h_endA (α := z39α) z39α
       ·exact (by (iterate 13 apply EqOn.same); exact .nil)
       ·exact rfl
       ·exact rfl
       ·exact rfl
       ·exact hB z39α (fun k => S k || Nat.beq k 9) false (or_f e12 rfl)
      ·intro z39α S hc hk hp
       have e12 : S 12 = false := (not_yet (j := 12) (q := 2) hc (not_yet (j := 11) (q := 0) hc hk rfl rfl rfl rfl) rfl rfl rfl rfl)
       refine eq_H (H' := [.vec z38α.1 (q0) z38.2.1.span.was.cells, .obj true z33 z34 (.dat (q2 z38α.1)) z38.2.1, .vec z38α.2.1 (q0) z38.2.2.1.span.was.cells, .obj true z11 z12 (.dat (q2 z38α.2.1)) z38.2.2.1, .vec z38α.2.2.1 (q0) z38.2.2.2.1.span.was.cells, .obj true z27 z28 (.dat (q1 z38α.2.2.1)) z38.2.2.2.1, .vec z38α.2.2.2.1 (q0) z38.2.2.2.2.1.span.was.cells, .obj true z6 z7 (.dat (q1 z38α.2.2.2.1)) z38.2.2.2.2.1, .vec z38α.2.2.2.2.1 (q0) z38.2.2.2.2.2.1.span.was.cells, .obj true z21 z22 (.dat (q2 z38α.2.2.2.2.1)) z38.2.2.2.2.2.1, .vec z38α.2.2.2.2.2 (q0) z38.2.2.2.2.2.2.span.was.cells, .obj true z16 z17 (.dat (q1 z38α.2.2.2.2.2)) z38.2.2.2.2.2.2, .gone]) (by first | exact hB z39α S false e12 | (have q := hB z39α S false e12; simp only [cond_true, cond_false] at q; exact q)) ?_
       refine o_load type4 rfl rfl guard_none (look_d rfl rfl (pr hp 0 rfl rfl)) (fun _ => rfl) ?_
       apply h_endA (α := z39α) z39α
       ·exact (by (iterate 13 apply EqOn.same); exact .nil)
       ·exact rfl
       ·exact rfl
       ·exact rfl
       ·exact hB z39α (fun k => S k || Nat.beq k 10) false (or_f e12 rfl)
      ·intro z39α S hc hk hp
       have e12 : S 12 = false := (not_yet (j := 12) (q := 2) hc hk rfl rfl rfl rfl)
       refine eq_H (H' := [.vec z38α.1 (q0) z38.2.1.span.was.cells, .obj true z33 z34 (.dat (q2 z38α.1)) z38.2.1, .vec z38α.2.1 (q0) z38.2.2.1.span.was.cells, .obj true z11 z12 (.dat (q2 z38α.2.1)) z38.2.2.1, .vec z38α.2.2.1 (q0) z38.2.2.2.1.span.was.cells, .obj true z27 z28 (.dat (q1 z38α.2.2.1)) z38.2.2.2.1, .vec z38α.2.2.2.1 (q0) z38.2.2.2.2.1.span.was.cells, .obj true z6 z7 (.dat (q1 z38α.2.2.2.1)) z38.2.2.2.2.1, .vec z38α.2.2.2.2.1 (q0) z38.2.2.2.2.2.1.span.was.cells, .obj true z21 z22 (.dat (q2 z38α.2.2.2.2.1)) z38.2.2.2.2.2.1, .vec z38α.2.2.2.2.2 (q0) z38.2.2.2.2.2.2.span.was.cells, .obj true z16 z17 (.dat (q1 z38α.2.2.2.2.2)) z38.2.2.2.2.2.2, .gone]) (by first | exact hB z39α S false e12 | (have q := hB z39α S false e12; simp only [cond_true, cond_false] at q; exact q)) ?_
       refine o_not rfl rfl guard_none (look_d rfl rfl (pr hp 0 rfl rfl)) (fun _ => rfl) ?_
       apply h_endA (α := z39α) z39α
       ·exact (by (iterate 13 apply EqOn.same); exact .nil)
       ·exact rfl
       ·exact rfl
       ·exact rfl
       ·exact hB z39α (fun k => S k || Nat.beq k 11) false (or_f e12 rfl)
      ·intro z39α S hc hk hp
       refine eq_H (H' := [.vec z38α.1 (q0) z38.2.1.span.was.cells, .obj true z33 z34 (.dat (q2 z38α.1)) z38.2.1, .vec z38α.2.1 (q0) z38.2.2.1.span.was.cells, .obj true z11 z12 (.dat (q2 z38α.2.1)) z38.2.2.1, .vec z38α.2.2.1 (q0) z38.2.2.2.1.span.was.cells, .obj true z27 z28 (.dat (q1 z38α.2.2.1)) z38.2.2.2.1, .vec z38α.2.2.2.1 (q0) z38.2.2.2.2.1.span.was.cells, .obj true z6 z7 (.dat (q1 z38α.2.2.2.1)) z38.2.2.2.2.1, .vec z38α.2.2.2.2.1 (q0) z38.2.2.2.2.2.1.span.was.cells, .obj true z21 z22 (.dat (q2 z38α.2.2.2.2.1)) z38.2.2.2.2.2.1, .vec z38α.2.2.2.2.2 (q0) z38.2.2.2.2.2.2.span.was.cells, .obj true z16 z17 (.dat (q1 z38α.2.2.2.2.2)) z38.2.2.2.2.2.2, .gone]) (by first | exact hB z39α S false hk | (have q := hB z39α S false hk; simp only [cond_true, cond_false] at q; exact q)) ?_
       refine o_from (bind_eqO h_z42) ?_
       refine o_weak (H' := [.vec z38α.2.2.2.1 (q0) z38.2.2.2.2.1.span.was.cells, .obj true z6 z7 (.dat (q1 z38α.2.2.2.1)) z38.2.2.2.2.1] ++ ([] ++ [.vec z38α.1 (q0) z38.2.1.span.was.cells, .obj true z33 z34 (.dat (q2 z38α.1)) z38.2.1, .vec z38α.2.1 (q0) z38.2.2.1.span.was.cells, .obj true z11 z12 (.dat (q2 z38α.2.1)) z38.2.2.1, .vec z38α.2.2.1 (q0) z38.2.2.2.1.span.was.cells, .obj true z27 z28 (.dat (q1 z38α.2.2.1)) z38.2.2.2.1, .vec z38α.2.2.2.2.1 (q0) z38.2.2.2.2.2.1.span.was.cells, .obj true z21 z22 (.dat (q2 z38α.2.2.2.2.1)) z38.2.2.2.2.2.1, .vec z38α.2.2.2.2.2 (q0) z38.2.2.2.2.2.2.span.was.cells, .obj true z16 z17 (.dat (q1 z38α.2.2.2.2.2)) z38.2.2.2.2.2.2, .gone])) (sub_pick [6, 7, 0, 1, 2, 3, 4, 5, 8, 9, 10, 11, 12] rfl rfl) ?_
       refine o_callU rfl rfl rfl rfl rfl callable34 (looks_cons (look_d rfl rfl (pr hp 0 rfl rfl)) (fun _ => rfl) (looks_cons (look_d rfl rfl (pr hp 1 rfl rfl)) (fun _ => rfl) (looks_cons (look_d rfl rfl (pr hp 2 rfl rfl)) (fun _ => rfl) (looks_nil)))) .nil (window_Once_Step_ok _ _ _ z38.2.2.2.2.1 z40.At (!z41.F)) (fun _ _ => (wr_v (wr_c wr_n))) (fun z43α => o_eqOH ?_)
       refine o_weak (H' := [.vec z43α (q0) z42.2.span.was.cells, .obj true z6 z7 (.dat (q1 z43α)) z42.2, .vec z38α.1 (q0) z38.2.1.span.was.cells, .obj true z33 z34 (.dat (q2 z38α.1)) z38.2.1, .vec z38α.2.1 (q0) z38.2.2.1.span.was.cells, .obj true z11 z12 (.dat (q2 z38α.2.1)) z38.2.2.1, .vec z38α.2.2.1 (q0) z38.2.2.2.1.span.was.cells, .obj true z27 z28 (.dat (q1 z38α.2.2.1)) z38.2.2.2.1, .vec z38α.2.2.2.2.1 (q0) z38.2.2.2.2.2.1.span.was.cells, .obj true z21 z22 (.dat (q2 z38α.2.2.2.2.1)) z38.2.2.2.2.2.1, .vec z38α.2.2.2.2.2 (q0) z38.2.2.2.2.2.2.span.was.cells, .obj true z16 z17 (.dat (q1 z38α.2.2.2.2.2)) z38.2.2.2.2.2.2, .gone]) (sub_pick [0, 1, 2, 3, 4, 5, 6, 7, 8, 9, 10, 11, 12] rfl rfl) ?_
       refine o_weak sub_gone ?_
       refine o_weak (H' := [.vec z38α.1 (q0) z38.2.1.span.was.cells, .obj true z33 z34 (.dat (q2 z38α.1)) z38.2.1, .vec z38α.2.1 (q0) z38.2.2.1.span.was.cells, .obj true z11 z12 (.dat (q2 z38α.2.1)) z38.2.2.1, .vec z38α.2.2.1 (q0) z38.2.2.2.1.span.was.cells, .obj true z27 z28 (.dat (q1 z38α.2.2.1)) z38.2.2.2.1, .gone, .obj true z6 z7 (.dat (q1 z43α)) z42.2, .vec z38α.2.2.2.2.1 (q0) z38.2.2.2.2.2.1.span.was.cells, .obj true z21 z22 (.dat (q2 z38α.2.2.2.2.1)) z38.2.2.2.2.2.1, .vec z38α.2.2.2.2.2 (q0) z38.2.2.2.2.2.2.span.was.cells, .obj true z16 z17 (.dat (q1 z38α.2.2.2.2.2)) z38.2.2.2.2.2.2, .vec z43α (q0) z42.2.span.was.cells]) (sub_pick [3, 4, 5, 6, 7, 8, 0, 2, 9, 10, 11, 12, 1] rfl rfl) ?_
       apply h_endA (α := z39α) z43α
       ·exact (by (iterate 13 apply EqOn.same); exact .nil)
       ·exact rfl
       ·exact rfl
       ·exact rfl
       ·exact hB z43α (fun k => S k || Nat.beq k 12) true (or_i rfl)
      refine den_weak (H' := [.vec z38α.1 (q0) z38.2.1.span.was.cells, .obj true z33 z34 (.dat (q2 z38α.1)) z38.2.1, .vec z38α.2.1 (q0) z38.2.2.1.span.was.cells, .obj true z11 z12 (.dat (q2 z38α.2.1)) z38.2.2.1, .vec z38α.2.2.1 (q0) z38.2.2.2.1.span.was.cells, .obj true z27 z28 (.dat (q1 z38α.2.2.1)) z38.2.2.2.1, .obj true z6 z7 (.dat (q1 z39α)) z42.2, .vec z38α.2.2.2.2.1 (q0) z38.2.2.2.2.2.1.span.was.cells, .obj true z21 z22 (.dat (q2 z38α.2.2.2.2.1)) z38.2.2.2.2.2.1, .vec z38α.2.2.2.2.2 (q0) z38.2.2.2.2.2.2.span.was.cells, .obj true z16 z17 (.dat (q1 z38α.2.2.2.2.2)) z38.2.2.2.2.2.2, .vec z39α (q0) z42.2.span.was.cells]) (sub_pick [0, 1, 2, 3, 4, 5, 7, 8, 9, 10, 11, 12] rfl rfl) ?_
      refine den_seq ?_
      refine den_open (fun z45 h_z45 => ?_)
      refine den_open (fun z46 h_z46 => ?_)
      refine den_open (fun z47 h_z47 => ?_)
      refine den_open (fun z48 h_z48 => ?_)
      have hB : ∀ (z44α : Value) (S : Nat → Bool) (b18 : Bool), S 18 = b18 → (([.vec z38α.1 (q0) z38.2.1.span.was.cells, .obj true z33 z34 (.dat (q2 z38α.1)) z38.2.1, (cond (S 18) (.gone) (.vec z38α.2.1 (q0) z38.2.2.1.span.was.cells)), (cond (S 18) (.obj true z11 z12 (.dat (q2 z44α)) z48.2) (.obj true z11 z12 (.dat (q2 z38α.2.1)) z38.2.2.1)), .vec z38α.2.2.1 (q0) z38.2.2.2.1.span.was.cells, .obj true z27 z28 (.dat (q1 z38α.2.2.1)) z38.2.2.2.1, .obj true z6 z7 (.dat (q1 z39α)) z42.2, .vec z38α.2.2.2.2.1 (q0) z38.2.2.2.2.2.1.span.was.cells, .obj true z21 z22 (.dat (q2 z38α.2.2.2.2.1)) z38.2.2.2.2.2.1, .vec z38α.2.2.2.2.2 (q0) z38.2.2.2.2.2.2.span.was.cells, .obj true z16 z17 (.dat (q1 z38α.2.2.2.2.2)) z38.2.2.2.2.2.2, .vec z39α (q0) z42.2.span.was.cells, (cond (S 18) (.vec (z44α) (q0) z48.2.span.was.cells) (.gone))] : List Go.Eng.Item)) = ([.vec z38α.1 (q0) z38.2.1.span.was.cells, .obj true z33 z34 (.dat (q2 z38α.1)) z38.2.1, (cond b18 (.gone) (.vec z38α.2.1 (q0) z38.2.2.1.span.was.cells)), (cond b18 (.obj true z11 z12 (.dat (q2 z44α)) z48.2) (.obj true z11 z12 (.dat (q2 z38α.2.1)) z38.2.2.1)), .vec z38α.2.2.1 (q0) z38.2.2.2.1.span.was.cells, .obj true z27 z28 (.dat (q1 z38α.2.2.1)) z38.2.2.2.1, .obj true z6 z7 (.dat (q1 z39α)) z42.2, .vec z38α.2.2.2.2.1 (q0) z38.2.2.2.2.2.1.span.was.cells, .obj true z21 z22 (.dat (q2 z38α.2.2.2.2.1)) z38.2.2.2.2.2.1, .vec z38α.2.2.2.2.2 (q0) z38.2.2.2.2.2.2.span.was.cells, .obj true z16 z17 (.dat (q1 z38α.2.2.2.2.2)) z38.2.2.2.2.2.2, .vec z39α (q0) z42.2.span.was.cells, (cond b18 (.vec (z44α) (q0) z48.2.span.was.cells) (.gone))] : List Go.Eng.Item) := fun z44α S b18 h18 => by subst h18; rfl
      refine den_weak sub_gone ?_
      refine den_weak (sub_pick (H' := [.vec z38α.1 (q0) z38.2.1.span.was.cells, .obj true z33 z34 (.dat (q2 z38α.1)) z38.2.1, .vec z38α.2.1 (q0) z38.2.2.1.span.was.cells, .obj true z11 z12 (.dat (q2 z38α.2.1)) z38.2.2.1, .vec z38α.2.2.1 (q0) z38.2.2.2.1.span.was.cells, .obj true z27 z28 (.dat (q1 z38α.2.2.1)) z38.2.2.2.1, .obj true z6 z7 (.dat (q1 z39α)) z42.2, .vec z38α.2.2.2.2.1 (q0) z38.2.2.2.2.2.1.span.was.cells, .obj true z21 z22 (.dat (q2 z38α.2.2.2.2.1)) z38.2.2.2.2.2.1, .vec z38α.2.2.2.2.2 (q0) z38.2.2.2.2.2.2.span.was.cells, .obj true z16 z17 (.dat (q1 z38α.2.2.2.2.2)) z38.2.2.2.2.2.2, .vec z39α (q0) z42.2.span.was.cells, .gone]) [1, 2, 3, 4, 5, 6, 7, 8, 9, 10, 11, 12, 0] rfl rfl) ?_
      refine den_drawA (A := Value) (H' := fun z44α => [.vec z38α.1 (q0) z38.2.1.span.was.cells, .obj true z33 z34 (.dat (q2 z38α.1)) z38.2.1, .gone, .obj true z11 z12 (.dat (q2 z44α)) z48.2, .vec z38α.2.2.1 (q0) z38.2.2.2.1.span.was.cells, .obj true z27 z28 (.dat (q1 z38α.2.2.1)) z38.2.2.2.1, .obj true z6 z7 (.dat (q1 z39α)) z42.2, .vec z38α.2.2.2.2.1 (q0) z38.2.2.2.2.2.1.span.was.cells, .obj true z21 z22 (.dat (q2 z38α.2.2.2.2.1)) z38.2.2.2.2.2.1, .vec z38α.2.2.2.2.2 (q0) z38.2.2.2.2.2.2.span.was.cells, .obj true z16 z17 (.dat (q1 z38α.2.2.2.2.2)) z38.2.2.2.2.2.2, .vec z39α (q0) z42.2.span.was.cells, .vec (z44α) (q0) z48.2.span.was.cells]) (fun z44α => [(126, ⟨Rep.addr, (z11, z12), true⟩), (127, ⟨(T_law16_Step_rep).slice, z3, true⟩), (128, ⟨Rep.int .i64, z38.1, true⟩), (129, ⟨(T_law16_Step_rep).ptrTo, z45, true⟩), (130, ⟨(Rep.int .i64).ptrTo, z45.At, true⟩), (131, ⟨Rep.int .i64, z45.At, true⟩), (132, ⟨(T_law16_Step_rep).slice, z3, true⟩), (133, ⟨Rep.int .i64, z38.1, true⟩), (134, ⟨(T_law16_Step_rep).ptrTo, z46, true⟩), (135, ⟨(Rep.bool).ptrTo, z46.F, true⟩), (136, ⟨Rep.bool, z46.F, true⟩), (137, ⟨Rep.bool, !z46.F, true⟩), (138, ⟨(T_law16_Step_rep).slice, z3, true⟩), (139, ⟨Rep.int .i64, z38.1, true⟩), (140, ⟨(T_law16_Step_rep).ptrTo, z47, true⟩), (141, ⟨(Rep.bool).ptrTo, z47.G, true⟩), (142, ⟨Rep.bool, z47.G, true⟩), (143, ⟨Rep.bool, !z47.G, true⟩), (144, ⟨Rep.bool, z48.1, true⟩)]) (fun z44α S => [.vec z38α.1 (q0) z38.2.1.span.was.cells, .obj true z33 z34 (.dat (q2 z38α.1)) z38.2.1, (cond (S 18) (.gone) (.vec z38α.2.1 (q0) z38.2.2.1.span.was.cells)), (cond (S 18) (.obj true z11 z12 (.dat (q2 z44α)) z48.2) (.obj true z11 z12 (.dat (q2 z38α.2.1)) z38.2.2.1)), .vec z38α.2.2.1 (q0) z38.2.2.2.1.span.was.cells, .obj true z27 z28 (.dat (q1 z38α.2.2.1)) z38.2.2.2.1, .obj true z6 z7 (.dat (q1 z39α)) z42.2, .vec z38α.2.2.2.2.1 (q0) z38.2.2.2.2.2.1.span.was.cells, .obj true z21 z22 (.dat (q2 z38α.2.2.2.2.1)) z38.2.2.2.2.2.1, .vec z38α.2.2.2.2.2 (q0) z38.2.2.2.2.2.2.span.was.cells, .obj true z16 z17 (.dat (q1 z38α.2.2.2.2.2)) z38.2.2.2.2.2.2, .vec z39α (q0) z42.2.span.was.cells, (cond (S 18) (.vec (z44α) (q0) z48.2.span.was.cells) (.gone))]) (Value.slice none 0 0) mixed (fun _ => rfl) rfl rfl (fun z44α S hS => hB z44α S true (hS 18 (by decide))) ⟨?_, ?_, ?_, ?_, ?_, ?_, ?_, ?_, ?_, ?_, ?_, ?_, ?_, ?_, ?_, ?_, ?_, ?_, ?_, trivial⟩ (fun z44α => ?_)
      ·intro z44α S hc hk hp
       have e18 : S 18 = false := (not_yet (j := 18) (q := 0) hc hk rfl rfl rfl rfl)
       refine eq_H (H' := [.vec z38α.1 (q0) z38.2.1.span.was.cells, .obj true z33 z34 (.dat (q2 z38α.1)) z38.2.1, .vec z38α.2.1 (q0) z38.2.2.1.span.was.cells, .obj true z11 z12 (.dat (q2 z38α.2.1)) z38.2.2.1, .vec z38α.2.2.1 (q0) z38.2.2.2.1.span.was.cells, .obj true z27 z28 (.dat (q1 z38α.2.2.1)) z38.2.2.2.1, .obj true z6 z7 (.dat (q1 z39α)) z42.2, .vec z38α.2.2.2.2.1 (q0) z38.2.2.2.2.2.1.span.was.cells, .obj true z21 z22 (.dat (q2 z38α.2.2.2.2.1)) z38.2.2.2.2.2.1, .vec z38α.2.2.2.2.2 (q0) z38.2.2.2.2.2.2.span.was.cells, .obj true z16 z17 (.dat (q1 z38α.2.2.2.2.2)) z38.2.2.2.2.2.2, .vec z39α (q0) z42.2.span.was.cells, .gone]) (by first | exact hB z44α S false e18 | (have q := hB z44α S false e18; simp only [cond_true, cond_false] at q; exact q)) ?_
       refine o_move rfl rfl guard_none (look_o rfl rfl) (fun _ => rfl) ?_
       apply h_endA (α := z44α) z44α
       ·exact (by (iterate 19 apply EqOn.same); exact .nil)
       ·exact rfl
       ·exact rfl
       ·exact rfl
       ·exact hB z44α (fun k => S k || Nat.beq k 0) false (or_f e18 rfl)
      ·intro z44α S hc hk hp
       have e18 : S 18 = false := (not_yet (j := 18) (q := 1) hc (not_yet (j := 5) (q := 0) hc (not_yet (j := 4) (q := 0) hc (not_yet (j := 3) (q := 0) hc hk rfl rfl rfl rfl) rfl rfl rfl rfl) rfl rfl rfl rfl) rfl rfl rfl rfl)
       refine eq_H (H' := [.vec z38α.1 (q0) z38.2.1.span.was.cells, .obj true z33 z34 (.dat (q2 z38α.1)) z38.2.1, .vec z38α.2.1 (q0) z38.2.2.1.span.was.cells, .obj true z11 z12 (.dat (q2 z38α.2.1)) z38.2.2.1, .vec z38α.2.2.1 (q0) z38.2.2.2.1.span.was.cells, .obj true z27 z28 (.dat (q1 z38α.2.2.1)) z38.2.2.2.1, .obj true z6 z7 (.dat (q1 z39α)) z42.2, .vec z38α.2.2.2.2.1 (q0) z38.2.2.2.2.2.1.span.was.cells, .obj true z21 z22 (.dat (q2 z38α.2.2.2.2.1)) z38.2.2.2.2.2.1, .vec z38α.2.2.2.2.2 (q0) z38.2.2.2.2.2.2.span.was.cells, .obj true z16 z17 (.dat (q1 z38α.2.2.2.2.2)) z38.2.2.2.2.2.2, .vec z39α (q0) z42.2.span.was.cells, .gone]) (by first | exact hB z44α S false e18 | (have q := hB z44α S false e18; simp only [cond_true, cond_false] at q; exact q)) ?_
       refine o_move rfl rfl guard_none (look_o rfl rfl) (fun _ => rfl) ?_
       apply h_endA (α := z44α) z44α
       ·exact (by (iterate 19 apply EqOn.same); exact .nil)
       ·exact rfl
       ·exact rfl
       ·exact rfl
       ·exact hB z44α (fun k => S k || Nat.beq k 1) false (or_f e18 rfl)
      ·intro z44α S hc hk hp
       have e18 : S 18 = false := (not_yet (j := 18) (q := 1) hc (not_yet (j := 5) (q := 0) hc (not_yet (j := 4) (q := 0) hc (not_yet (j := 3) (q := 1) hc hk rfl rfl rfl rfl) rfl rfl rfl rfl) rfl rfl rfl rfl) rfl rfl rfl rfl)
       refine eq_H (H' := [.vec z38α.1 (q0) z38.2.1.span.was.cells, .obj true z33 z34 (.dat (q2 z38α.1)) z38.2.1, .vec z38α.2.1 (q0) z38.2.2.1.span.was.cells, .obj true z11 z12 (.dat (q2 z38α.2.1)) z38.2.2.1, .vec z38α.2.2.1 (q0) z38.2.2.2.1.span.was.cells, .obj true z27 z28 (.dat (q1 z38α.2.2.1)) z38.2.2.2.1, .obj true z6 z7 (.dat (q1 z39α)) z42.2, .vec z38α.2.2.2.2.1 (q0) z38.2.2.2.2.2.1.span.was.cells, .obj true z21 z22 (.dat (q2 z38α.2.2.2.2.1)) z38.2.2.2.2.2.1, .vec z38α.2.2.2.2.2 (q0) z38.2.2.2.2.2.2.span.was.cells, .obj true z16 z17 (.dat (q1 z38α.2.2.2.2.2)) z38.2.2.2.2.2.2, .vec z39α (q0) z42.2.span.was.cells, .gone]) (by first | exact hB z44α S false e18 | (have q := hB z44α S false e18; simp only [cond_true, cond_false] at q; exact q)) ?_
       refine o_move rfl rfl guard_none (look_o rfl rfl) (fun _ => rfl) ?_
       apply h_endA (α := z44α) z44α
       ·exact (by (iterate 19 apply EqOn.same); exact .nil)
       ·exact rfl
       ·exact rfl
       ·exact rfl
       ·exact hB z44α (fun k => S k || Nat.beq k 2) false (or_f e18 rfl)
      ·intro z44α S hc hk hp
       have e18 : S 18 = false := (not_yet (j := 18) (q := 1) hc (not_yet (j := 5) (q := 0) hc (not_yet (j := 4) (q := 0) hc hk rfl rfl rfl rfl) rfl rfl rfl rfl) rfl rfl rfl rfl)
       refine eq_H (H' := [.vec z38α.1 (q0) z38.2.1.span.was.cells, .obj true z33 z34 (.dat (q2 z38α.1)) z38.2.1, .vec z38α.2.1 (q0) z38.2.2.1.span.was.cells, .obj true z11 z12 (.dat (q2 z38α.2.1)) z38.2.2.1, .vec z38α.2.2.1 (q0) z38.2.2.2.1.span.was.cells, .obj true z27 z28 (.dat (q1 z38α.2.2.1)) z38.2.2.2.1, .obj true z6 z7 (.dat (q1 z39α)) z42.2, .vec z38α.2.2.2.2.1 (q0) z38.2.2.2.2.2.1.span.was.cells, .obj true z21 z22 (.dat (q2 z38α.2.2.2.2.1)) z38.2.2.2.2.2.1, .vec z38α.2.2.2.2.2 (q0) z38.2.2.2.2.2.2.span.was.cells, .obj true z16 z17 (.dat (q1 z38α.2.2.2.2.2)) z38.2.2.2.2.2.2, .vec z39α (q0) z42.2.span.was.cells, .gone]) (by first | exact hB z44α S false e18 | (have q := hB z44α S false e18; simp only [cond_true, cond_false] at q; exact q)) ?_
       refine o_from (bind_eqO h_z45) ?_
       refine o_iaddr Try.underlying55 type67 rfl rfl (look_d rfl rfl (pr hp 0 rfl rfl)) (look_d rfl rfl (pr hp 1 rfl rfl)) rfl rfl (o_eqO ?_)
       apply h_endA (α := z44α) z44α
       ·exact (by (iterate 19 apply EqOn.same); exact .nil)
       ·exact rfl
       ·exact rfl
       ·exact rfl
       ·exact hB z44α (fun k => S k || Nat.beq k 3) false (or_f e18 rfl)
      ·intro z44α S hc hk hp
       have e18 : S 18 = false := (not_yet (j := 18) (q := 1) hc (not_yet (j := 5) (q := 0) hc hk rfl rfl rfl rfl) rfl rfl rfl rfl)
       refine eq_H (H' := [.vec z38α.1 (q0) z38.2.1.span.was.cells, .obj true z33 z34 (.dat (q2 z38α.1)) z38.2.1, .vec z38α.2.1 (q0) z38.2.2.1.span.was.cells, .obj true z11 z12 (.dat (q2 z38α.2.1)) z38.2.2.1, .vec z38α.2.2.1 (q0) z38.2.2.2.1.span.was.cells, .obj true z27 z28 (.dat (q1 z38α.2.2.1)) z38.2.2.2.1, .obj true z6 z7 (.dat (q1 z39α)) z42.2, .vec z38α.2.2.2.2.1 (q0) z38.2.2.2.2.2.1.span.was.cells, .obj true z21 z22 (.dat (q2 z38α.2.2.2.2.1)) z38.2.2.2.2.2.1, .vec z38α.2.2.2.2.2 (q0) z38.2.2.2.2.2.2.span.was.cells, .obj true z16 z17 (.dat (q1 z38α.2.2.2.2.2)) z38.2.2.2.2.2.2, .vec z39α (q0) z42.2.span.was.cells, .gone]) (by first | exact hB z44α S false e18 | (have q := hB z44α S false e18; simp only [cond_true, cond_false] at q; exact q)) ?_
       refine o_fptr field67_0 type2 (by decide) T_law16_Step_foc0 rfl rfl guard_none (look_d rfl rfl (pr hp 0 rfl rfl)) (fun _ => rfl) ?_
       apply h_endA (α := z44α) z44α
       ·exact (by (iterate 19 apply EqOn.same); exact .nil)
       ·exact rfl
       ·exact rfl
       ·exact rfl
       ·exact hB z44α (fun k => S k || Nat.beq k 4) false (or_f e18 rfl)
      ·intro z44α S hc hk hp
       have e18 : S 18 = false := (not_yet (j := 18) (q := 1) hc hk rfl rfl rfl rfl)
       refine eq_H (H' := [.vec z38α.1 (q0) z38.2.1.span.was.cells, .obj true z33 z34 (.dat (q2 z38α.1)) z38.2.1, .vec z38α.2.1 (q0) z38.2.2.1.span.was.cells, .obj true z11 z12 (.dat (q2 z38α.2.1)) z38.2.2.1, .vec z38α.2.2.1 (q0) z38.2.2.2.1.span.was.cells, .obj true z27 z28 (.dat (q1 z38α.2.2.1)) z38.2.2.2.1, .obj true z6 z7 (.dat (q1 z39α)) z42.2, .vec z38α.2.2.2.2.1 (q0) z38.2.2.2.2.2.1.span.was.cells, .obj true z21 z22 (.dat (q2 z38α.2.2.2.2.1)) z38.2.2.2.2.2.1, .vec z38α.2.2.2.2.2 (q0) z38.2.2.2.2.2.2.span.was.cells, .obj true z16 z17 (.dat (q1 z38α.2.2.2.2.2)) z38.2.2.2.2.2.2, .vec z39α (q0) z42.2.span.was.cells, .gone]) (by first | exact hB z44α S false e18 | (have q := hB z44α S false e18; simp only [cond_true, cond_false] at q; exact q)) ?_
       refine o_load type2 rfl rfl guard_none (look_d rfl rfl (pr hp 0 rfl rfl)) (fun _ => rfl) ?_
       apply h_endA (α := z44α) z44α
       ·exact (by (iterate 19 apply EqOn.same); exact .nil)
       ·exact rfl
       ·exact rfl
       ·exact rfl
       ·exact hB z44α (fun k => S k || Nat.beq k 5) false (or_f e18 rfl)
      ·intro z44α S hc hk hp
       have e18 : S 18 = false := (not_yet (j := 18) (q := 2) hc (not_yet (j := 11) (q := 0) hc (not_yet (j := 10) (q := 0) hc (not_yet (j := 9) (q := 0) hc (not_yet (j := 8) (q := 0) hc hk rfl rfl rfl rfl) rfl rfl rfl rfl) rfl rfl rfl rfl) rfl rfl rfl rfl) rfl rfl rfl rfl)
       refine eq_H (H' := [.vec z38α.1 (q0) z38.2.1.span.was.cells, .obj true z33 z34 (.dat (q2 z38α.1)) z38.2.1, .vec z38α.2.1 (q0) z38.2.2.1.span.was.cells, .obj true z11 z12 (.dat (q2 z38α.2.1)) z38.2.2.1, .vec z38α.2.2.1 (q0) z38.2.2.2.1.span.was.cells, .obj true z27 z28 (.dat (q1 z38α.2.2.1)) z38.2.2.2.1, .obj true z6 z7 (.dat (q1 z39α)) z42.2, .vec z38α.2.2.2.2.1 (q0) z38.2.2.2.2.2.1.span.was.cells, .obj true z21 z22 (.dat (q2 z38α.2.2.2.2.1)) z38.2.2.2.2.2.1, .vec z38α.2.2.2.2.2 (q0) z38.2.2.2.2.2.2.span.was.cells, .obj true z16 z17 (.dat (q1 z38α.2.2.2.2.2)) z38.2.2.2.2.2.2, .vec z39α (q0) z42.2.span.was.cells, .gone]) (by first | exact hB z44α S false e18 | (have q := hB z44α S false e18; simp only [cond_true, cond_false] at q; exact q)) ?_
       refine o_move rfl rfl guard_none (look_o rfl rfl) (fun _ => rfl) ?_
       apply h_endA (α := z44α) z44α
       ·exact (by (iterate 19 apply EqOn.same); exact .nil)
       ·exact rfl
       ·exact rfl
       ·exact rfl
       ·exact hB z44α (fun k => S k || Nat.beq k 6) false (or_f e18 rfl)
      ·intro z44α S hc hk hp
       have e18 : S 18 = false := (not_yet (j := 18) (q := 2) hc (not_yet (j := 11) (q := 0) hc (not_yet (j := 10) (q := 0) hc (not_yet (j := 9) (q := 0) hc (not_yet (j := 8) (q := 1) hc hk rfl rfl rfl rfl) rfl rfl rfl rfl) rfl rfl rfl rfl) rfl rfl rfl rfl) rfl rfl rfl rfl)
       refine eq_H (H' := [.vec z38α.1 (q0) z38.2.1.span.was.cells, .obj true z33 z34 (.dat (q2 z38α.1)) z38.2.1, .vec z38α.2.1 (q0) z38.2.2.1.span.was.cells, .obj true z11 z12 (.dat (q2 z38α.2.1)) z38.2.2.1, .vec z38α.2.2.1 (q0) z38.2.2.2.1.span.was.cells, .obj true z27 z28 (.dat (q1 z38α.2.2.1)) z38.2.2.2.1, .obj true z6 z7 (.dat (q1 z39α)) z42.2, .vec z38α.2.2.2.2.1 (q0) z38.2.2.2.2.2.1.span.was.cells, .obj true z21 z22 (.dat (q2 z38α.2.2.2.2.1)) z38.2.2.2.2.2.1, .vec z38α.2.2.2.2.2 (q0) z38.2.2.2.2.2.2.span.was.cells, .obj true z16 z17 (.dat (q1 z38α.2.2.2.2.2)) z38.2.2.2.2.2.2, .vec z39α (q0) z42.2.span.was.cells, .gone]) (by first | exact hB z44α S false e18 | (have q := hB z44α S false e18; simp only [cond_true, cond_false] at q; exact q)) ?_
       refine o_move rfl rfl guard_none (look_o rfl rfl) (fun _ => rfl) ?_
       apply h_endA (α := z44α) z44α
       ·exact (by (iterate 19 apply EqOn.same); exact .nil)
       ·exact rfl
       ·exact rfl
       ·exact rfl
       ·exact hB z44α (fun k => S k || Nat.beq k 7) false (or_f e18 rfl)
      ·intro z44α S hc hk hp
       have e18 : S 18 = false := (not_yet (j := 18) (q := 2) hc (not_yet (j := 11) (q := 0) hc (not_yet (j := 10) (q := 0) hc (not_yet (j := 9) (q := 0) hc hk rfl rfl rfl rfl) rfl rfl rfl rfl) rfl rfl rfl rfl) rfl rfl rfl rfl)
       refine eq_H (H' := [.vec z38α.1 (q0) z38.2.1.span.was.cells, .obj true z33 z34 (.dat (q2 z38α.1)) z38.2.1, .vec z38α.2.1 (q0) z38.2.2.1.span.was.cells, .obj true z11 z12 (.dat (q2 z38α.2.1)) z38.2.2.1, .vec z38α.2.2.1 (q0) z38.2.2.2.1.span.was.cells, .obj true z27 z28 (.dat (q1 z38α.2.2.1)) z38.2.2.2.1, .obj true z6 z7 (.dat (q1 z39α)) z42.2, .vec z38α.2.2.2.2.1 (q0) z38.2.2.2.2.2.1.span.was.cells, .obj true z21 z22 (.dat (q2 z38α.2.2.2.2.1)) z38.2.2.2.2.2.1, .vec z38α.2.2.2.2.2 (q0) z38.2.2.2.2.2.2.span.was.cells, .obj true z16 z17 (.dat (q1 z38α.2.2.2.2.2)) z38.2.2.2.2.2.2, .vec z39α (q0) z42.2.span.was.cells, .gone]) (by first | exact hB z44α S false e18 | (have q := hB z44α S false e18; simp only [cond_true, cond_false] at q; exact q)) ?_
       refine o_from (bind_eqO h_z46) ?_
       refine o_iaddr Try.underlying55 type67 rfl rfl (look_d rfl rfl (pr hp 0 rfl rfl)) (look_d rfl rfl (pr hp 1 rfl rfl)) rfl rfl (o_eqO ?_)
       apply h_endA (α := z44α) z44α
       ·exact (by (iterate 19 apply EqOn.same); exact .nil)
       ·exact rfl
       ·exact rfl
       ·exact rfl
       ·exact hB z44α (fun k => S k || Nat.beq k 8) false (or_f e18 rfl)
      ·intro z44α S hc hk hp
       have e18 : S 18 = false := (not_yet (j := 18) (q := 2) hc (not_yet (j := 11) (q := 0) hc (not_yet (j := 10) (q := 0) hc hk rfl rfl rfl rfl) rfl rfl rfl rfl) rfl rfl rfl rfl)
       refine eq_H (H' := [.vec z38α.1 (q0) z38.2.1.span.was.cells, .obj true z33 z34 (.dat (q2 z38α.1)) z38.2.1, .vec z38α.2.1 (q0) z38.2.2.1.span.was.cells, .obj true z11 z12 (.dat (q2 z38α.2.1)) z38.2.2.1, .vec z38α.2.2.1 (q0) z38.2.2.2.1.span.was.cells, .obj true z27 z28 (.dat (q1 z38α.2.2.1)) z38.2.2.2.1, .obj true z6 z7 (.dat (q1 z39α)) z42.2, .vec z38α.2.2.2.2.1 (q0) z38.2.2.2.2.2.1.span.was.cells, .obj true z21 z22 (.dat (q2 z38α.2.2.2.2.1)) z38.2.2.2.2.2.1, .vec z38α.2.2.2.2.2 (q0) z38.2.2.2.2.2.2.span.was.cells, .obj true z16 z17 (.dat (q1 z38α.2.2.2.2.2)) z38.2.2.2.2.2.2, .vec z39α (q0) z42.2.span.was.cells, .gone]) (by first | exact hB z44α S false e18 | (have q := hB z44α S false e18; simp only [cond_true, cond_false] at q; exact q)) ?_
       refine o_fptr field67_1 type4 (by decide) T_law16_Step_foc1 rfl rfl guard_none (look_d rfl rfl (pr hp 0 rfl rfl)) (fun _ => rfl) ?_
       apply h_endA (α := z44α) z44α
       ·exact (by (iterate 19 apply EqOn.same); exact .nil)
       ·exact rfl
       ·exact rfl
       ·exact rfl
       ·exact hB z44α (fun k => S k || Nat.beq k 9) false (or_f e18 rfl)
      ·intro z44α S hc hk hp
       have e18 : S 18 = false := (not_yet (j := 18) (q := 2) hc (not_yet (j := 11) (q := 0) hc hk rfl rfl rfl rfl) rfl rfl rfl rfl)
       refine eq_H (H' := [.vec z38α.1 (q0) z38.2.1.span.was.cells, .obj true z33 z34 (.dat (q2 z38α.1)) z38.2.1, .vec z38α.2.1 (q0) z38.2.2.1.span.was.cells, .obj true z11 z12 (.dat (q2 z38α.2.1)) z38.2.2.1, .vec z38α.2.2.1 (q0) z38.2.2.2.1.span.was.cells, .obj true z27 z28 (.dat (q1 z38α.2.2.1)) z38.2.2.2.1, .obj true z6 z7 (.dat (q1 z39α)) z42.2, .vec z38α.2.2.2.2.1 (q0) z38.2.2.2.2.2.1.span.was.cells, .obj true z21 z22 (.dat (q2 z38α.2.2.2.2.1)) z38.2.2.2.2.2.1, .vec z38α.2.2.2.2.2 (q0) z38.2.2.2.2.2.2.span.was.cells, .obj true z16 z17 (.dat (q1 z38α.2.2.2.2.2)) z38.2.2.2.2.2.2, .vec z39α (q0) z42.2.span.was.cells, .gone]) (by first | exact hB z44α S false e18 | (have q := hB z44α S false e18; simp only [cond_true, cond_false] at q; exact q)) ?_
       refine o_load type4 rfl rfl guard_none (look_d rfl rfl (pr hp 0 rfl rfl)) (fun _ => rfl) ?_
       apply h_endA (α := z44α) z44α
       ·exact (by (iterate 19 apply EqOn.same); exact .nil)
       ·exact rfl
       ·exact rfl
       ·exact rfl
       ·exact hB z44α (fun k => S k || Nat.beq k 10) false (or_f e18 rfl)
      ·intro z44α S hc hk hp
       have e18 : S 18 = false := (not_yet (j := 18) (q := 2) hc hk rfl rfl rfl rfl)
       refine eq_H (H' := [.vec z38α.1 (q0) z38.2.1.span.was.cells, .obj true z33 z34 (.dat (q2 z38α.1)) z38.2.1, .vec z38α.2.1 (q0) z38.2.2.1.span.was.cells, .obj true z11 z12 (.dat (q2 z38α.2.1)) z38.2.2.1, .vec z38α.2.2.1 (q0) z38.2.2.2.1.span.was.cells, .obj true z27 z28 (.dat (q1 z38α.2.2.1)) z38.2.2.2.1, .obj true z6 z7 (.dat (q1 z39α)) z42.2, .vec z38α.2.2.2.2.1 (q0) z38.2.2.2.2.2.1.span.was.cells, .obj true z21 z22 (.dat (q2 z38α.2.2.2.2.1)) z38.2.2.2.2.2.1, .vec z38α.2.2.2.2.2 (q0) z38.2.2.2.2.2.2.span.was.cells, .obj true z16 z17 (.dat (q1 z38α.2.2.2.2.2)) z38.2.2.2.2.2.2, .vec z39α (q0) z42.2.span.was.cells, .gone]) (by first | exact hB z44α S false e18 | (have q := hB z44α S false e18; simp only [cond_true, cond_false] at q; exact q)) ?_
       refine o_not rfl rfl guard_none (look_d rfl rfl (pr hp 0 rfl rfl)) (fun _ => rfl) ?_
       apply h_endA (α := z44α) z44α
       ·exact (by (iterate 19 apply EqOn.same); exact .nil)
       ·exact rfl
       ·exact rfl
       ·exact rfl
       ·exact hB z44α (fun k => S k || Nat.beq k 11) false (or_f e18 rfl)
      ·intro z44α S hc hk hp
       have e18 : S 18 = false := (not_yet (j := 18) (q := 3) hc (not_yet (j := 17) (q := 0) hc (not_yet (j := 16) (q := 0) hc (not_yet (j := 15) (q := 0) hc (not_yet (j := 14) (q := 0) hc hk rfl rfl rfl rfl) rfl rfl rfl rfl) rfl rfl rfl rfl) rfl rfl rfl rfl) rfl rfl rfl rfl)
       refine eq_H (H' := [.vec z38α.1 (q0) z38.2.1.span.was.cells, .obj true z33 z34 (.dat (q2 z38α.1)) z38.2.1, .vec z38α.2.1 (q0) z38.2.2.1.span.was.cells, .obj true z11 z12 (.dat (q2 z38α.2.1)) z38.2.2.1, .vec z38α.2.2.1 (q0) z38.2.2.2.1.span.was.cells, .obj true z27 z28 (.dat (q1 z38α.2.2.1)) z38.2.2.2.1, .obj true z6 z7 (.dat (q1 z39α)) z42.2, .vec z38α.2.2.2.2.1 (q0) z38.2.2.2.2.2.1.span.was.cells, .obj true z21 z22 (.dat (q2 z38α.2.2.2.2.1)) z38.2.2.2.2.2.1, .vec z38α.2.2.2.2.2 (q0) z38.2.2.2.2.2.2.span.was.cells, .obj true z16 z17 (.dat (q1 z38α.2.2.2.2.2)) z38.2.2.2.2.2.2, .vec z39α (q0) z42.2.span.was.cells, .gone]) (by first | exact hB z44α S false e18 | (have q := hB z44α S false e18; simp only [cond_true, cond_false] at q; exact q)) ?_
       refine o_move rfl rfl guard_none (look_o rfl rfl) (fun _ => rfl) ?_
       apply h_endA (α := z44α) z44α
       ·exact (by (iterate 19 apply EqOn.same); exact .nil)
       ·exact rfl
       ·exact rfl
       ·exact rfl
       ·exact hB z44α (fun k => S k || Nat.beq k 12) false (or_f e18 rfl)
      ·intro z44α S hc hk hp
       have e18 : S 18 = false := (not_yet (j := 18) (q := 3) hc (not_yet (j := 17) (q := 0) hc (not_yet (j := 16) (q := 0) hc (not_yet (j := 15) (q := 0) hc (not_yet (j := 14) (q := 1) hc hk rfl rfl rfl rfl) rfl rfl rfl rfl) rfl rfl rfl rfl) rfl rfl rfl rfl) rfl rfl rfl rfl)
       refine eq_H (H' := [.vec z38α.1 (q0) z38.2.1.span.was.cells, .obj true z33 z34 (.dat (q2 z38α.1)) z38.2.1, .vec z38α.2.1 (q0) z38.2.2.1.span.was.cells, .obj true z11 z12 (.dat (q2 z38α.2.1)) z38.2.2.1, .vec z38α.2.2.1 (q0) z38.2.2.2.1.span.was.cells, .obj true z27 z28 (.dat (q1 z38α.2.2.1)) z38.2.2.2.1, .obj true z6 z7 (.dat (q1 z39α)) z42.2, .vec z38α.2.2.2.2.1 (q0) z38.2.2.2.2.2.1.span.was.cells, .obj true z21 z22 (.dat (q2 z38α.2.2.2.2.1)) z38.2.2.2.2.2.1, .vec z38α.2.2.2.2.2 (q0) z38.2.2.2.2.2.2.span.was.cells, .obj true z16 z17 (.dat (q1 z38α.2.2.2.2.2)) z38.2.2.2.2.2.2, .vec z39α (q0) z42.2.span.was.cells, .gone]) (by first | exact hB z44α S false e18 | (have q := hB z44α S false e18; simp only [cond_true, cond_false] at q; exact q)) ?_
       refine o_move rfl rfl guard_none (look_o rfl rfl) (fun _ => rfl) ?_
       apply h_endA (α := z44α) z44α
       ·exact (by (iterate 19 apply EqOn.same); exact .nil)
       ·exact rfl
       ·exact rfl
       ·exact rfl
       ·exact hB z44α (fun k => S k || Nat.beq k 13) false (or_f e18 rfl)
      ·intro z44α S hc hk hp
       have e18 : S 18 = false := (not_yet (j := 18) (q := 3) hc (not_yet (j := 17) (q := 0) hc (not_yet (j := 16) (q := 0) hc (not_yet (j := 15) (q := 0) hc hk rfl rfl rfl rfl) rfl rfl rfl rfl) rfl rfl rfl rfl) rfl rfl rfl rfl)
       refine eq_H (H' := [.vec z38α.1 (q0) z38.2.1.span.was.cells, .obj true z33 z34 (.dat (q2 z38α.1)) z38.2.1, .vec z38α.2.1 (q0) z38.2.2.1.span.was.cells, .obj true z11 z12 (.dat (q2 z38α.2.1)) z38.2.2.1, .vec z38α.2.2.1 (q0) z38.2.2.2.1.span.was.cells, .obj true z27 z28 (.dat (q1 z38α.2.2.1)) z38.2.2.2.1, .obj true z6 z7 (.dat (q1 z39α)) z42.2, .vec z38α.2.2.2.2.1 (q0) z38.2.2.2.2.2.1.span.was.cells, .obj true z21 z22 (.dat (q2 z38α.2.2.2.2.1)) z38.2.2.2.2.2.1, .vec z38α.2.2.2.2.2 (q0) z38.2.2.2.2.2.2.span.was.cells, .obj true z16 z17 (.dat (q1 z38α.2.2.2.2.2)) z38.2.2.2.2.2.2, .vec z39α (q0) z42.2.span.was.cells, .gone]) (by first | exact hB z44α S false e18 | (have q := hB z44α S false e18; simp only [cond_true, cond_false] at q; exact q)) ?_
       refine o_from (bind_eqO h_z47) ?_
       refine o_iaddr Try.underlying55 type67 rfl rfl (look_d rfl rfl (pr hp 0 rfl rfl)) (look_d rfl rfl (pr hp 1 rfl rfl)) rfl rfl (o_eqO ?_)
       apply h_endA (α := z44α) z44α
       ·exact (by (iterate 19 apply EqOn.same); exact .nil)
       ·exact rfl
       ·exact rfl
       ·exact rfl
       ·exact hB z44α (fun k => S k || Nat.beq k 14) false (or_f e18 rfl)
      ·intro z44α S hc hk hp
       have e18 : S 18 = false := (not_yet (j := 18) (q := 3) hc (not_yet (j := 17) (q := 0) hc (not_yet (j := 16) (q := 0) hc hk rfl rfl rfl rfl) rfl rfl rfl rfl) rfl rfl rfl rfl)
       refine eq_H (H' := [.vec z38α.1 (q0) z38.2.1.span.was.cells, .obj true z33 z34 (.dat (q2 z38α.1)) z38.2.1, .vec z38α.2.1 (q0) z38.2.2.1.span.was.cells, .obj true z11 z12 (.dat (q2 z38α.2.1)) z38.2.2.1, .vec z38α.2.2.1 (q0) z38.2.2.2.1.span.was.cells, .obj true z27 z28 (.dat (q1 z38α.2.2.1)) z38.2.2.2.1, .obj true z6 z7 (.dat (q1 z39α)) z42.2, .vec z38α.2.2.2.2.1 (q0) z38.2.2.2.2.2.1.span.was.cells, .obj true z21 z22 (.dat (q2 z38α.2.2.2.2.1)) z38.2.2.2.2.2.1, .vec z38α.2.2.2.2.2 (q0) z38.2.2.2.2.2.2.span.was.cells, .obj true z16 z17 (.dat (q1 z38α.2.2.2.2.2)) z38.2.2.2.2.2.2, .vec z39α (q0) z42.2.span.was.cells, .gone]) (by first | exact hB z44α S false e18 | (have q := hB z44α S false e18; simp only [cond_true, cond_false] at q; exact q)) ?_
       refine o_fptr field67_2 type4 (by decide) T_law16_Step_foc2 rfl rfl guard_none (look_d rfl rfl (pr hp 0 rfl rfl)) (fun _ => rfl) ?_
       apply h_endA (α := z44α) z44α
       ·exact (by (iterate 19 apply EqOn.same); exact .nil)
       ·exact rfl
       ·exact rfl
       ·exact rfl
       ·exact hB z44α (fun k => S k || Nat.beq k 15) false (or_f e18 rfl)
      ·intro z44α S hc hk hp
       have e18 : S 18 = false := (not_yet (j := 18) (q := 3) hc (not_yet (j := 17) (q := 0) hc hk rfl rfl rfl rfl) rfl rfl rfl rfl)
       refine eq_H (H' := [.vec z38α.1 (q0) z38.2.1.span.was.cells, .obj true z33 z34 (.dat (q2 z38α.1)) z38.2.1, .vec z38α.2.1 (q0) z38.2.2.1.span.was.cells, .obj true z11 z12 (.dat (q2 z38α.2.1)) z38.2.2.1, .vec z38α.2.2.1 (q0) z38.2.2.2.1.span.was.cells, .obj true z27 z28 (.dat (q1 z38α.2.2.1)) z38.2.2.2.1, .obj true z6 z7 (.dat (q1 z39α)) z42.2, .vec z38α.2.2.2.2.1 (q0) z38.2.2.2.2.2.1.span.was.cells, .obj true z21 z22 (.dat (q2 z38α.2.2.2.2.1)) z38.2.2.2.2.2.1, .vec z38α.2.2.2.2.2 (q0) z38.2.2.2.2.2.2.span.was.cells, .obj true z16 z17 (.dat (q1 z38α.2.2.2.2.2)) z38.2.2.2.2.2.2, .vec z39α (q0) z42.2.span.was.cells, .gone]) (by first | exact hB z44α S false e18 | (have q := hB z44α S false e18; simp only [cond_true, cond_false] at q; exact q)) ?_
       refine o_load type4 rfl rfl guard_none (look_d rfl rfl (pr hp 0 rfl rfl)) (fun _ => rfl) ?_
       apply h_endA (α := z44α) z44α
       ·exact (by (iterate 19 apply EqOn.same); exact .nil)
       ·exact rfl
       ·exact rfl
       ·exact rfl
       ·exact hB z44α (fun k => S k || Nat.beq k 16) false (or_f e18 rfl)
      ·intro z44α S hc hk hp
       have e18 : S 18 = false := (not_yet (j := 18) (q := 3) hc hk rfl rfl rfl rfl)
       refine eq_H (H' := [.vec z38α.1 (q0) z38.2.1.span.was.cells, .obj true z33 z34 (.dat (q2 z38α.1)) z38.2.1, .vec z38α.2.1 (q0) z38.2.2.1.span.was.cells, .obj true z11 z12 (.dat (q2 z38α.2.1)) z38.2.2.1, .vec z38α.2.2.1 (q0) z38.2.2.2.1.span.was.cells, .obj true z27 z28 (.dat (q1 z38α.2.2.1)) z38.2.2.2.1, .obj true z6 z7 (.dat (q1 z39α)) z42.2, .vec z38α.2.2.2.2.1 (q0) z38.2.2.2.2.2.1.span.was.cells, .obj true z21 z22 (.dat (q2 z38α.2.2.2.2.1)) z38.2.2.2.2.2.1, .vec z38α.2.2.2.2.2 (q0) z38.2.2.2.2.2.2.span.was.cells, .obj true z16 z17 (.dat (q1 z38α.2.2.2.2.2)) z38.2.2.2.2.2.2, .vec z39α (q0) z42.2.span.was.cells, .gone]) (by first | exact hB z44α S false e18 | (have q := hB z44α S false e18; simp only [cond_true, cond_false] at q; exact q)) ?_
       refine o_not rfl rfl guard_none (look_d rfl rfl (pr hp 0 rfl rfl)) (fun _ => rfl) ?_
       apply h_endA (α := z44α) z44α
       ·exact (by (iterate 19 apply EqOn.same); exact .nil)
       ·exact rfl
       ·exact rfl
       ·exact rfl
       ·exact hB z44α (fun k => S k || Nat.beq k 17) false (or_f e18 rfl)
      ·intro z44α S hc hk hp
       refine eq_H (H' := [.vec z38α.1 (q0) z38.2.1.span.was.cells, .obj true z33 z34 (.dat (q2 z38α.1)) z38.2.1, .vec z38α.2.1 (q0) z38.2.2.1.span.was.cells, .obj true z11 z12 (.dat (q2 z38α.2.1)) z38.2.2.1, .vec z38α.2.2.1 (q0) z38.2.2.2.1.span.was.cells, .obj true z27 z28 (.dat (q1 z38α.2.2.1)) z38.2.2.2.1, .obj true z6 z7 (.dat (q1 z39α)) z42.2, .vec z38α.2.2.2.2.1 (q0) z38.2.2.2.2.2.1.span.was.cells, .obj true z21 z22 (.dat (q2 z38α.2.2.2.2.1)) z38.2.2.2.2.2.1, .vec z38α.2.2.2.2.2 (q0) z38.2.2.2.2.2.2.span.was.cells, .obj true z16 z17 (.dat (q1 z38α.2.2.2.2.2)) z38.2.2.2.2.2.2, .vec z39α (q0) z42.2.span.was.cells, .gone]) (by first | exact hB z44α S false hk | (have q := hB z44α S false hk; simp only [cond_true, cond_false] at q; exact q)) ?_
       refine o_from (bind_eqO h_z48) ?_
       refine o_weak (H' := [.vec z38α.2.1 (q0) z38.2.2.1.span.was.cells, .obj true z11 z12 (.dat (q2 z38α.2.1)) z38.2.2.1] ++ ([] ++ [.vec z38α.1 (q0) z38.2.1.span.was.cells, .obj true z33 z34 (.dat (q2 z38α.1)) z38.2.1, .vec z38α.2.2.1 (q0) z38.2.2.2.1.span.was.cells, .obj true z27 z28 (.dat (q1 z38α.2.2.1)) z38.2.2.2.1, .obj true z6 z7 (.dat (q1 z39α)) z42.2, .vec z38α.2.2.2.2.1 (q0) z38.2.2.2.2.2.1.span.was.cells, .obj true z21 z22 (.dat (q2 z38α.2.2.2.2.1)) z38.2.2.2.2.2.1, .vec z38α.2.2.2.2.2 (q0) z38.2.2.2.2.2.2.span.was.cells, .obj true z16 z17 (.dat (q1 z38α.2.2.2.2.2)) z38.2.2.2.2.2.2, .vec z39α (q0) z42.2.span.was.cells, .gone])) (sub_pick [2, 3, 0, 1, 4, 5, 6, 7, 8, 9, 10, 11, 12] rfl rfl) ?_
       refine o_callU rfl rfl rfl rfl rfl callable37 (looks_cons (look_d rfl rfl (pr hp 0 rfl rfl)) (fun _ => rfl) (looks_cons (look_d rfl rfl (pr hp 1 rfl rfl)) (fun _ => rfl) (looks_cons (look_d rfl rfl (pr hp 2 rfl rfl)) (fun _ => rfl) (looks_cons (look_d rfl rfl (pr hp 3 rfl rfl)) (fun _ => rfl) (looks_nil))))) .nil (window_Since_Step_ok _ _ _ z38.2.2.1 z45.At (!z46.F) (!z47.G)) (fun _ _ => (wr_v (wr_c wr_n))) (fun z49α => o_eqOH ?_)
       refine o_weak (H' := [.vec z49α (q0) z48.2.span.was.cells, .obj true z11 z12 (.dat (q2 z49α)) z48.2, .vec z38α.1 (q0) z38.2.1.span.was.cells, .obj true z33 z34 (.dat (q2 z38α.1)) z38.2.1, .vec z38α.2.2.1 (q0) z38.2.2.2.1.span.was.cells, .obj true z27 z28 (.dat (q1 z38α.2.2.1)) z38.2.2.2.1, .obj true z6 z7 (.dat (q1 z39α)) z42.2, .vec z38α.2.2.2.2.1 (q0) z38.2.2.2.2.2.1.span.was.cells, .obj true z21 z22 (.dat (q2 z38α.2.2.2.2.1)) z38.2.2.2.2.2.1, .vec z38α.2.2.2.2.2 (q0) z38.2.2.2.2.2.2.span.was.cells, .obj true z16 z17 (.dat (q1 z38α.2.2.2.2.2)) z38.2.2.2.2.2.2, .vec z39α (q0) z42.2.span.was.cells, .gone]) (sub_pick [0, 1, 2, 3, 4, 5, 6, 7, 8, 9, 10, 11, 12] rfl rfl) ?_
       refine o_weak sub_gone ?_
       refine o_weak (H' := [.vec z38α.1 (q0) z38.2.1.span.was.cells, .obj true z33 z34 (.dat (q2 z38α.1)) z38.2.1, .gone, .obj true z11 z12 (.dat (q2 z49α)) z48.2, .vec z38α.2.2.1 (q0) z38.2.2.2.1.span.was.cells, .obj true z27 z28 (.dat (q1 z38α.2.2.1)) z38.2.2.2.1, .obj true z6 z7 (.dat (q1 z39α)) z42.2, .vec z38α.2.2.2.2.1 (q0) z38.2.2.2.2.2.1.span.was.cells, .obj true z21 z22 (.dat (q2 z38α.2.2.2.2.1)) z38.2.2.2.2.2.1, .vec z38α.2.2.2.2.2 (q0) z38.2.2.2.2.2.2.span.was.cells, .obj true z16 z17 (.dat (q1 z38α.2.2.2.2.2)) z38.2.2.2.2.2.2, .vec z39α (q0) z42.2.span.was.cells, .vec z49α (q0) z48.2.span.was.cells]) (sub_pick [3, 4, 0, 2, 5, 6, 7, 8, 9, 10, 11, 12, 1] rfl rfl) ?_
       apply h_endA (α := z44α) z49α
       ·exact (by (iterate 19 apply EqOn.same); exact .nil)
       ·exact rfl
       ·exact rfl
       ·exact rfl
       ·exact hB z49α (fun k => S k || Nat.beq k 18) true (or_i rfl)
      refine den_weak (H' := [.vec z38α.1 (q0) z38.2.1.span.was.cells, .obj true z33 z34 (.dat (q2 z38α.1)) z38.2.1, .obj true z11 z12 (.dat (q2 z44α)) z48.2, .vec z38α.2.2.1 (q0) z38.2.2.2.1.span.was.cells, .obj true z27 z28 (.dat (q1 z38α.2.2.1)) z38.2.2.2.1, .obj true z6 z7 (.dat (q1 z39α)) z42.2, .vec z38α.2.2.2.2.1 (q0) z38.2.2.2.2.2.1.span.was.cells, .obj true z21 z22 (.dat (q2 z38α.2.2.2.2.1)) z38.2.2.2.2.2.1, .vec z38α.2.2.2.2.2 (q0) z38.2.2.2.2.2.2.span.was.cells, .obj true z16 z17 (.dat (q1 z38α.2.2.2.2.2)) z38.2.2.2.2.2.2, .vec z39α (q0) z42.2.span.was.cells, .vec z44α (q0) z48.2.span.was.cells]) (sub_pick [0, 1, 3, 4, 5, 6, 7, 8, 9, 10, 11, 12] rfl rfl) ?_
      refine den_seq ?_
      refine den_open (fun z51 h_z51 => ?_)
      refine den_open (fun z52 h_z52 => ?_)
      refine den_open (fun z53 h_z53 => ?_)
      refine den_open (fun z55 h_z55 => ?_)
      refine den_open (fun z56 h_z56 => ?_)
      refine den_open (fun z57 h_z57 => ?_)
      have hB : ∀ (z50α : (Value × Value)) (S : Nat → Bool) (b11 b23 : Bool), S 11 = b11 → S 23 = b23 → (([.vec z38α.1 (q0) z38.2.1.span.was.cells, .obj true z33 z34 (.dat (q2 z38α.1)) z38.2.1, .obj true z11 z12 (.dat (q2 z44α)) z48.2, (cond (S 11) (.gone) (.vec z38α.2.2.1 (q0) z38.2.2.2.1.span.was.cells)), (cond (S 11) (.obj true z27 z28 (.dat (q1 z50α.1)) z53.2) (.obj true z27 z28 (.dat (q1 z38α.2.2.1)) z38.2.2.2.1)), .obj true z6 z7 (.dat (q1 z39α)) z42.2, .vec z38α.2.2.2.2.1 (q0) z38.2.2.2.2.2.1.span.was.cells, .obj true z21 z22 (.dat (q2 z38α.2.2.2.2.1)) z38.2.2.2.2.2.1, (cond (S 23) (.gone) (.vec z38α.2.2.2.2.2 (q0) z38.2.2.2.2.2.2.span.was.cells)), (cond (S 23) (.obj true z16 z17 (.dat (q1 z50α.2)) z57.2) (.obj true z16 z17 (.dat (q1 z38α.2.2.2.2.2)) z38.2.2.2.2.2.2)), .vec z39α (q0) z42.2.span.was.cells, .vec z44α (q0) z48.2.span.was.cells, (cond (S 11) (.vec (z50α.1) (q0) z53.2.span.was.cells) (.gone)), (cond (S 23) (.vec (z50α.2) (q0) z57.2.span.was.cells) (.gone))] : List Go.Eng.Item)) = ([.vec z38α.1 (q0) z38.2.1.span.was.cells, .obj true z33 z34 (.dat (q2 z38α.1)) z38.2.1, .obj true z11 z12 (.dat (q2 z44α)) z48.2, (cond b11 (.gone) (.vec z38α.2.2.1 (q0) z38.2.2.2.1.span.was.cells)), (cond b11 (.obj true z27 z28 (.dat (q1 z50α.1)) z53.2) (.obj true z27 z28 (.dat (q1 z38α.2.2.1)) z38.2.2.2.1)), .obj true z6 z7 (.dat (q1 z39α)) z42.2, .vec z38α.2.2.2.2.1 (q0) z38.2.2.2.2.2.1.span.was.cells, .obj true z21 z22 (.dat (q2 z38α.2.2.2.2.1)) z38.2.2.2.2.2.1, (cond b23 (.gone) (.vec z38α.2.2.2.2.2 (q0) z38.2.2.2.2.2.2.span.was.cells)), (cond b23 (.obj true z16 z17 (.dat (q1 z50α.2)) z57.2) (.obj true z16 z17 (.dat (q1 z38α.2.2.2.2.2)) z38.2.2.2.2.2.2)), .vec z39α (q0) z42.2.span.was.cells, .vec z44α (q0) z48.2.span.was.cells, (cond b11 (.vec (z50α.1) (q0) z53.2.span.was.cells) (.gone)), (cond b23 (.vec (z50α.2) (q0) z57.2.span.was.cells) (.gone))] : List Go.Eng.Item) := fun z50α S b11 b23 h11 h23 => by subst h11; subst h23; rfl
      refine den_weak sub_gone ?_
      refine den_weak sub_gone ?_
      refine den_weak (sub_pick (H' := [.vec z38α.1 (q0) z38.2.1.span.was.cells, .obj true z33 z34 (.dat (q2 z38α.1)) z38.2.1, .obj true z11 z12 (.dat (q2 z44α)) z48.2, .vec z38α.2.2.1 (q0) z38.2.2.2.1.span.was.cells, .obj true z27 z28 (.dat (q1 z38α.2.2.1)) z38.2.2.2.1, .obj true z6 z7 (.dat (q1 z39α)) z42.2, .vec z38α.2.2.2.2.1 (q0) z38.2.2.2.2.2.1.span.was.cells, .obj true z21 z22 (.dat (q2 z38α.2.2.2.2.1)) z38.2.2.2.2.2.1, .vec z38α.2.2.2.2.2 (q0) z38.2.2.2.2.2.2.span.was.cells, .obj true z16 z17 (.dat (q1 z38α.2.2.2.2.2)) z38.2.2.2.2.2.2, .vec z39α (q0) z42.2.span.was.cells, .vec z44α (q0) z48.2.span.was.cells, .gone, .gone]) [2, 3, 4, 5, 6, 7, 8, 9, 10, 11, 12, 13, 0, 1] rfl rfl) ?_
      refine den_drawA (A := (Value × Value)) (H' := fun z50α => [.vec z38α.1 (q0) z38.2.1.span.was.cells, .obj true z33 z34 (.dat (q2 z38α.1)) z38.2.1, .obj true z11 z12 (.dat (q2 z44α)) z48.2, .gone, .obj true z27 z28 (.dat (q1 z50α.1)) z53.2, .obj true z6 z7 (.dat (q1 z39α)) z42.2, .vec z38α.2.2.2.2.1 (q0) z38.2.2.2.2.2.1.span.was.cells, .obj true z21 z22 (.dat (q2 z38α.2.2.2.2.1)) z38.2.2.2.2.2.1, .gone, .obj true z16 z17 (.dat (q1 z50α.2)) z57.2, .vec z39α (q0) z42.2.span.was.cells, .vec z44α (q0) z48.2.span.was.cells, .vec (z50α.1) (q0) z53.2.span.was.cells, .vec (z50α.2) (q0) z57.2.span.was.cells]) (fun z50α => [(145, ⟨Rep.addr, (z27, z28), true⟩), (146, ⟨(T_law16_Step_rep).slice, z3, true⟩), (147, ⟨Rep.int .i64, z38.1, true⟩), (148, ⟨(T_law16_Step_rep).ptrTo, z51, true⟩), (149, ⟨(Rep.int .i64).ptrTo, z51.At, true⟩), (150, ⟨Rep.int .i64, z51.At, true⟩), (151, ⟨(T_law16_Step_rep).slice, z3, true⟩), (152, ⟨Rep.int .i64, z38.1, true⟩), (153, ⟨(T_law16_Step_rep).ptrTo, z52, true⟩), (154, ⟨(Rep.bool).ptrTo, z52.F, true⟩), (155, ⟨Rep.bool, z52.F, true⟩), (156, ⟨Rep.bool, z53.1, true⟩), (157, ⟨Rep.addr, (z16, z17), true⟩), (158, ⟨(T_law16_Step_rep).slice, z3, true⟩), (159, ⟨Rep.int .i64, z38.1, true⟩), (160, ⟨(T_law16_Step_rep).ptrTo, z55, true⟩), (161, ⟨(Rep.int .i64).ptrTo, z55.At, true⟩), (162, ⟨Rep.int .i64, z55.At, true⟩), (163, ⟨(T_law16_Step_rep).slice, z3, true⟩), (164, ⟨Rep.int .i64, z38.1, true⟩), (165, ⟨(T_law16_Step_rep).ptrTo, z56, true⟩), (166, ⟨(Rep.bool).ptrTo, z56.F, true⟩), (167, ⟨Rep.bool, z56.F, true⟩), (168, ⟨Rep.bool, z57.1, true⟩), (17, ⟨Rep.bool, z53.1, true⟩), (18, ⟨Rep.bool, z57.1, true⟩)]) (fun z50α S => [.vec z38α.1 (q0) z38.2.1.span.was.cells, .obj true z33 z34 (.dat (q2 z38α.1)) z38.2.1, .obj true z11 z12 (.dat (q2 z44α)) z48.2, (cond (S 11) (.gone) (.vec z38α.2.2.1 (q0) z38.2.2.2.1.span.was.cells)), (cond (S 11) (.obj true z27 z28 (.dat (q1 z50α.1)) z53.2) (.obj true z27 z28 (.dat (q1 z38α.2.2.1)) z38.2.2.2.1)), .obj true z6 z7 (.dat (q1 z39α)) z42.2, .vec z38α.2.2.2.2.1 (q0) z38.2.2.2.2.2.1.span.was.cells, .obj true z21 z22 (.dat (q2 z38α.2.2.2.2.1)) z38.2.2.2.2.2.1, (cond (S 23) (.gone) (.vec z38α.2.2.2.2.2 (q0) z38.2.2.2.2.2.2.span.was.cells)), (cond (S 23) (.obj true z16 z17 (.dat (q1 z50α.2)) z57.2) (.obj true z16 z17 (.dat (q1 z38α.2.2.2.2.2)) z38.2.2.2.2.2.2)), .vec z39α (q0) z42.2.span.was.cells, .vec z44α (q0) z48.2.span.was.cells, (cond (S 11) (.vec (z50α.1) (q0) z53.2.span.was.cells) (.gone)), (cond (S 23) (.vec (z50α.2) (q0) z57.2.span.was.cells) (.gone))]) ((Value.slice none 0 0), (Value.slice none 0 0)) mixed (fun _ => rfl) rfl rfl (fun z50α S hS => hB z50α S true true (hS 11 (by decide)) (hS 23 (by decide))) ⟨?_, ?_, ?_, ?_, ?_, ?_, ?_, ?_, ?_, ?_, ?_, ?_, ?_, ?_, ?_, ?_, ?_, ?_, ?_, ?_, ?_, ?_, ?_, ?_, ?_, ?_, trivial⟩ (fun z50α => ?_)
      ·intro z50α S hc hk hp
       have e11 : S 11 = false := (not_yet (j := 11) (q := 0) hc hk rfl rfl rfl rfl)
       have e23 : S 23 = false := (not_yet (j := 23) (q := 3) hc (not_yet (j := 11) (q := 0) hc hk rfl rfl rfl rfl) rfl rfl rfl rfl)
       refine eq_H (H' := [.vec z38α.1 (q0) z38.2.1.span.was.cells, .obj true z33 z34 (.dat (q2 z38α.1)) z38.2.1, .obj true z11 z12 (.dat (q2 z44α)) z48.2, .vec z38α.2.2.1 (q0) z38.2.2.2.1.span.was.cells, .obj true z27 z28 (.dat (q1 z38α.2.2.1)) z38.2.2.2.1, .obj true z6 z7 (.dat (q1 z39α)) z42.2, .vec z38α.2.2.2.2.1 (q0) z38.2.2.2.2.2.1.span.was.cells, .obj true z21 z22 (.dat (q2 z38α.2.2.2.2.1)) z38.2.2.2.2.2.1, .vec z38α.2.2.2.2.2 (q0) z38.2.2.2.2.2.2.span.was.cells, .obj true z16 z17 (.dat (q1 z38α.2.2.2.2.2)) z38.2.2.2.2.2.2, .vec z39α (q0) z42.2.span.was.cells, .vec z44α (q0) z48.2.span.was.cells, .gone, .gone]) (by first | exact hB z50α S false false e11 e23 | (have q := hB z50α S false false e11 e23; simp only [cond_true, cond_false] at q; exact q)) ?_
       refine o_move rfl rfl guard_none (look_o rfl rfl) (fun _ => rfl) ?_
       apply h_endA (α := z50α) (z50α.1, z50α.2)
       ·exact (by (iterate 26 apply EqOn.same); exact .nil)
       ·exact rfl
       ·exact rfl
       ·exact rfl
       ·exact hB (z50α.1, z50α.2) (fun k => S k || Nat.beq k 0) false false (or_f e11 rfl) (or_f e23 rfl)
      ·intro z50α S hc hk hp
       have e11 : S 11 = false := (not_yet (j := 11) (q := 1) hc (not_yet (j := 5) (q := 0) hc (not_yet (j := 4) (q := 0) hc (not_yet (j := 3) (q := 0) hc hk rfl rfl rfl rfl) rfl rfl rfl rfl) rfl rfl rfl rfl) rfl rfl rfl rfl)
       have e23 : S 23 = false := (not_yet (j := 23) (q := 3) hc (not_yet (j := 11) (q := 1) hc (not_yet (j := 5) (q := 0) hc (not_yet (j := 4) (q := 0) hc (not_yet (j := 3) (q := 0) hc hk rfl rfl rfl rfl) rfl rfl rfl rfl) rfl rfl rfl rfl) rfl rfl rfl rfl) rfl rfl rfl rfl)
       refine eq_H (H' := [.vec z38α.1 (q0) z38.2.1.span.was.cells, .obj true z33 z34 (.dat (q2 z38α.1)) z38.2.1, .obj true z11 z12 (.dat (q2 z44α)) z48.2, .vec z38α.2.2.1 (q0) z38.2.2.2.1.span.was.cells, .obj true z27 z28 (.dat (q1 z38α.2.2.1)) z38.2.2.2.1, .obj true z6 z7 (.dat (q1 z39α)) z42.2, .vec z38α.2.2.2.2.1 (q0) z38.2.2.2.2.2.1.span.was.cells, .obj true z21 z22 (.dat (q2 z38α.2.2.2.2.1)) z38.2.2.2.2.2.1, .vec z38α.2.2.2.2.2 (q0) z38.2.2.2.2.2.2.span.was.cells, .obj true z16 z17 (.dat (q1 z38α.2.2.2.2.2)) z38.2.2.2.2.2.2, .vec z39α (q0) z42.2.span.was.cells, .vec z44α (q0) z48.2.span.was.cells, .gone, .gone]) (by first | exact hB z50α S false false e11 e23 | (have q := hB z50α S false false e11 e23; simp only [cond_true, cond_false] at q; exact q)) ?_
       refine o_move rfl rfl guard_none (look_o rfl rfl) (fun _ => rfl) ?_
       apply h_endA (α := z50α) (z50α.1, z50α.2)
       ·exact (by (iterate 26 apply EqOn.same); exact .nil)
       ·exact rfl
       ·exact rfl
       ·exact rfl
       ·exact hB (z50α.1, z50α.2) (fun k => S k || Nat.beq k 1) false false (or_f e11 rfl) (or_f e23 rfl)
      ·intro z50α S hc hk hp
       have e11 : S 11 = false := (not_yet (j := 11) (q := 1) hc (not_yet (j := 5) (q := 0) hc (not_yet (j := 4) (q := 0) hc (not_yet (j := 3) (q := 1) hc hk rfl rfl rfl rfl) rfl rfl rfl rfl) rfl rfl rfl rfl) rfl rfl rfl rfl)
       have e23 : S 23 = false := (not_yet (j := 23) (q := 3) hc (not_yet (j := 11) (q := 1) hc (not_yet (j := 5) (q := 0) hc (not_yet (j := 4) (q := 0) hc (not_yet (j := 3) (q := 1) hc hk rfl rfl rfl rfl) rfl rfl rfl rfl) rfl rfl rfl rfl) rfl rfl rfl rfl) rfl rfl rfl rfl)
       refine eq_H (H' := [.vec z38α.1 (q0) z38.2.1.span.was.cells, .obj true z33 z34 (.dat (q2 z38α.1)) z38.2.1, .obj true z11 z12 (.dat (q2 z44α)) z48.2, .vec z38α.2.2.1 (q0) z38.2.2.2.1.span.was.cells, .obj true z27 z28 (.dat (q1 z38α.2.2.1)) z38.2.2.2.1, .obj true z6 z7 (.dat (q1 z39α)) z42.2, .vec z38α.2.2.2.2.1 (q0) z38.2.2.2.2.2.1.span.was.cells, .obj true z21 z22 (.dat (q2 z38α.2.2.2.2.1)) z38.2.2.2.2.2.1, .vec z38α.2.2.2.2.2 (q0) z38.2.2.2.2.2.2.span.was.cells, .obj true z16 z17 (.dat (q1 z38α.2.2.2.2.2)) z38.2.2.2.2.2.2, .vec z39α (q0) z42.2.span.was.cells, .vec z44α (q0) z48.2.span.was.cells, .gone, .gone]) (by first | exact hB z50α S false false e11 e23 | (have q := hB z50α S false false e11 e23; simp only [cond_true, cond_false] at q; exact q)) ?_
       refine o_move rfl rfl guard_none (look_o rfl rfl) (fun _ => rfl) ?_
       apply h_endA (α := z50α) (z50α.1, z50α.2)
       ·exact (by (iterate 26 apply EqOn.same); exact .nil)
       ·exact rfl
       ·exact rfl
       ·exact rfl
       ·exact hB (z50α.1, z50α.2) (fun k => S k || Nat.beq k 2) false false (or_f e11 rfl) (or_f e23 rfl)
      ·intro z50α S hc hk hp
       have e11 : S 11 = false := (not_yet (j := 11) (q := 1) hc (not_yet (j := 5) (q := 0) hc (not_yet (j := 4) (q := 0) hc hk rfl rfl rfl rfl) rfl rfl rfl rfl) rfl rfl rfl rfl)
       have e23 : S 23 = false := (not_yet (j := 23) (q := 3) hc (not_yet (j := 11) (q := 1) hc (not_yet (j := 5) (q := 0) hc (not_yet (j := 4) (q := 0) hc hk rfl rfl rfl rfl) rfl rfl rfl rfl) rfl rfl rfl rfl) rfl rfl rfl rfl)
       refine eq_H (H' := [.vec z38α.1 (q0) z38.2.1.span.was.cells, .obj true z33 z34 (.dat (q2 z38α.1)) z38.2.1, .obj true z11 z12 (.dat (q2 z44α)) z48.2, .vec z38α.2.2.1 (q0) z38.2.2.2.1.span.was.cells, .obj true z27 z28 (.dat (q1 z38α.2.2.1)) z38.2.2.2.1, .obj true z6 z7 (.dat (q1 z39α)) z42.2, .vec z38α.2.2.2.2.1 (q0) z38.2.2.2.2.2.1.span.was.cells, .obj true z21 z22 (.dat (q2 z38α.2.2.2.2.1)) z38.2.2.2.2.2.1, .vec z38α.2.2.2.2.2 (q0) z38.2.2.2.2.2.2.span.was.cells, .obj true z16 z17 (.dat (q1 z38α.2.2.2.2.2)) z38.2.2.2.2.2.2, .vec z39α (q0) z42.2.span.was.cells, .vec z44α (q0) z48.2.span.was.cells, .gone, .gone]) (by first | exact hB z50α S false false e11 e23 | (have q := hB z50α S false false e11 e23; simp only [cond_true, cond_false] at q; exact q)) ?_
       refine o_from (bind_eqO h_z51) ?_
       refine o_iaddr Try.underlying55 type67 rfl rfl (look_d rfl rfl (pr hp 0 rfl rfl)) (look_d rfl rfl (pr hp 1 rfl rfl)) rfl rfl (o_eqO ?_)
       apply h_endA (α := z50α) (z50α.1, z50α.2)
       ·exact (by (iterate 26 apply EqOn.same); exact .nil)
       ·exact rfl
       ·exact rfl
       ·exact rfl
       ·exact hB (z50α.1, z50α.2) (fun k => S k || Nat.beq k 3) false false (or_f e11 rfl) (or_f e23 rfl)
      ·intro z50α S hc hk hp
       have e11 : S 11 = false := (not_yet (j := 11) (q := 1) hc (not_yet (j := 5) (q := 0) hc hk rfl rfl rfl rfl) rfl rfl rfl rfl)
       have e23 : S 23 = false := (not_yet (j := 23) (q := 3) hc (not_yet (j := 11) (q := 1) hc (not_yet (j := 5) (q := 0) hc hk rfl rfl rfl rfl) rfl rfl rfl rfl) rfl rfl rfl rfl)
       refine eq_H (H' := [.vec z38α.1 (q0) z38.2.1.span.was.cells, .obj true z33 z34 (.dat (q2 z38α.1)) z38.2.1, .obj true z11 z12 (.dat (q2 z44α)) z48.2, .vec z38α.2.2.1 (q0) z38.2.2.2.1.span.was.cells, .obj true z27 z28 (.dat (q1 z38α.2.2.1)) z38.2.2.2.1, .obj true z6 z7 (.dat (q1 z39α)) z42.2, .vec z38α.2.2.2.2.1 (q0) z38.2.2.2.2.2.1.span.was.cells, .obj true z21 z22 (.dat (q2 z38α.2.2.2.2.1)) z38.2.2.2.2.2.1, .vec z38α.2.2.2.2.2 (q0) z38.2.2.2.2.2.2.span.was.cells, .obj true z16 z17 (.dat (q1 z38α.2.2.2.2.2)) z38.2.2.2.2.2.2, .vec z39α (q0) z42.2.span.was.cells, .vec z44α (q0) z48.2.span.was.cells, .gone, .gone]) (by first | exact hB z50α S false false e11 e23 | (have q := hB z50α S false false e11 e23; simp only [cond_true, cond_false] at q; exact q)) ?_
       refine o_fptr field67_0 type2 (by decide) T_law16_Step_foc0 rfl rfl guard_none (look_d rfl rfl (pr hp 0 rfl rfl)) (fun _ => rfl) ?_
       apply h_endA (α := z50α) (z50α.1, z50α.2)
       ·exact (by (iterate 26 apply EqOn.same); exact .nil)
       ·exact rfl
       ·exact rfl
       ·exact rfl
       ·exact hB (z50α.1, z50α.2) (fun k => S k || Nat.beq k 4) false false (or_f e11 rfl) (or_f e23 rfl)
      ·intro z50α S hc hk hp
       have e11 : S 11 = false := (not_yet (j := 11) (q := 1) hc hk rfl rfl rfl rfl)
       have e23 : S 23 = false := (not_yet (j := 23) (q := 3) hc (not_yet (j := 11) (q := 1) hc hk rfl rfl rfl rfl) rfl rfl rfl rfl)
       refine eq_H (H' := [.vec z38α.1 (q0) z38.2.1.span.was.cells, .obj true z33 z34 (.dat (q2 z38α.1)) z38.2.1, .obj true z11 z12 (.dat (q2 z44α)) z48.2, .vec z38α.2.2.1 (q0) z38.2.2.2.1.span.was.cells, .obj true z27 z28 (.dat (q1 z38α.2.2.1)) z38.2.2.2.1, .obj true z6 z7 (.dat (q1 z39α)) z42.2, .vec z38α.2.2.2.2.1 (q0) z38.2.2.2.2.2.1.span.was.cells, .obj true z21 z22 (.dat (q2 z38α.2.2.2.2.1)) z38.2.2.2.2.2.1, .vec z38α.2.2.2.2.2 (q0) z38.2.2.2.2.2.2.span.was.cells, .obj true z16 z17 (.dat (q1 z38α.2.2.2.2.2)) z38.2.2.2.2.2.2, .vec z39α (q0) z42.2.span.was.cells, .vec z44α (q0) z48.2.span.was.cells, .gone, .gone]) (by first | exact hB z50α S false false e11 e23 | (have q := hB z50α S false false e11 e23; simp only [cond_true, cond_false] at q; exact q)) ?_
       refine o_load type2 rfl rfl guard_none (look_d rfl rfl (pr hp 0 rfl rfl)) (fun _ => rfl) ?_
       apply h_endA (α := z50α) (z50α.1, z50α.2)
       ·exact (by (iterate 26 apply EqOn.same); exact .nil)
       ·exact rfl
       ·exact rfl
       ·exact rfl
       ·exact hB (z50α.1, z50α.2) (fun k => S k || Nat.beq k 5) false false (or_f e11 rfl) (or_f e23 rfl)
      ·intro z50α S hc hk hp
       have e11 : S 11 = false := (not_yet (j := 11) (q := 2) hc (not_yet (j := 10) (q := 0) hc (not_yet (j := 9) (q := 0) hc (not_yet (j := 8) (q := 0) hc hk rfl rfl rfl rfl) rfl rfl rfl rfl) rfl rfl rfl rfl) rfl rfl rfl rfl)
       have e23 : S 23 = false := (not_yet (j := 23) (q := 3) hc (not_yet (j := 11) (q := 2) hc (not_yet (j := 10) (q := 0) hc (not_yet (j := 9) (q := 0) hc (not_yet (j := 8) (q := 0) hc hk rfl rfl rfl rfl) rfl rfl rfl rfl) rfl rfl rfl rfl) rfl rfl rfl rfl) rfl rfl rfl rfl)
       refine eq_H (H' := [.vec z38α.1 (q0) z38.2.1.span.was.cells, .obj true z33 z34 (.dat (q2 z38α.1)) z38.2.1, .obj true z11 z12 (.dat (q2 z44α)) z48.2, .vec z38α.2.2.1 (q0) z38.2.2.2.1.span.was.cells, .obj true z27 z28 (.dat (q1 z38α.2.2.1)) z38.2.2.2.1, .obj true z6 z7 (.dat (q1 z39α)) z42.2, .vec z38α.2.2.2.2.1 (q0) z38.2.2.2.2.2.1.span.was.cells, .obj true z21 z22 (.dat (q2 z38α.2.2.2.2.1)) z38.2.2.2.2.2.1, .vec z38α.2.2.2.2.2 (q0) z38.2.2.2.2.2.2.span.was.cells, .obj true z16 z17 (.dat (q1 z38α.2.2.2.2.2)) z38.2.2.2.2.2.2, .vec z39α (q0) z42.2.span.was.cells, .vec z44α (q0) z48.2.span.was.cells, .gone, .gone]) (by first | exact hB z50α S false false e11 e23 | (have q := hB z50α S false false e11 e23; simp only [cond_true, cond_false] at q; exact q)) ?_
       refine o_move rfl rfl guard_none (look_o rfl rfl) (fun _ => rfl) ?_
       apply h_endA (α := z50α) (z50α.1, z50α.2)
       ·exact (by (iterate 26 apply EqOn.same); exact .nil)
       ·exact rfl
       ·exact rfl
       ·exact rfl
       ·exact hB (z50α.1, z50α.2) (fun k => S k || Nat.beq k 6) false false (or_f e11 rfl) (or_f e23 rfl)
      ·intro z50α S hc hk hp
       have e11 : S 11 = false := (not_yet (j := 11) (q := 2) hc (not_yet (j := 10) (q := 0) hc (not_yet (j := 9) (q := 0) hc (not_yet (j := 8) (q := 1) hc hk rfl rfl rfl rfl) rfl rfl rfl rfl) rfl rfl rfl rfl) rfl rfl rfl rfl)
       have e23 : S 23 = false := (not_yet (j := 23) (q := 3) hc (not_yet (j := 11) (q := 2) hc (not_yet (j := 10) (q := 0) hc (not_yet (j := 9) (q := 0) hc (not_yet (j := 8) (q := 1) hc hk rfl rfl rfl rfl) rfl rfl rfl rfl) rfl rfl rfl rfl) rfl rfl rfl rfl) rfl rfl rfl rfl)
       refine eq_H (H' := [.vec z38α.1 (q0) z38.2.1.span.was.cells, .obj true z33 z34 (.dat (q2 z38α.1)) z38.2.1, .obj true z11 z12 (.dat (q2 z44α)) z48.2, .vec z38α.2.2.1 (q0) z38.2.2.2.1.span.was.cells, .obj true z27 z28 (.dat (q1 z38α.2.2.1)) z38.2.2.2.1, .obj true z6 z7 (.dat (q1 z39α)) z42.2, .vec z38α.2.2.2.2.1 (q0) z38.2.2.2.2.2.1.span.was.cells, .obj true z21 z22 (.dat (q2 z38α.2.2.2.2.1)) z38.2.2.2.2.2.1, .vec z38α.2.2.2.2.2 (q0) z38.2.2.2.2.2.2.span.was.cells, .obj true z16 z17 (.dat (q1 z38α.2.2.2.2.2)) z38.2.2.2.2.2.2, .vec z39α (q0) z42.2.span.was.cells, .vec z44α (q0) z48.2.span.was.cells, .gone, .gone]) (by first | exact hB z50α S false false e11 e23 | (have q := hB z50α S false false e11 e23; simp only [cond_true, cond_false] at q; exact q)) ?_
       refine o_move rfl rfl guard_none (look_o rfl rfl) (fun _ => rfl) ?_
       apply h_endA (α := z50α) (z50α.1, z50α.2)
       ·exact (by (iterate 26 apply EqOn.same); exact .nil)
       ·exact rfl
       ·exact rfl
       ·exact rfl
       ·exact hB (z50α.1, z50α.2) (fun k => S k || Nat.beq k 7) false false (or_f e11 rfl) (or_f e23 rfl)
      ·intro z50α S hc hk hp
       have e11 : S 11 = false := (not_yet (j := 11) (q := 2) hc (not_yet (j := 10) (q := 0) hc (not_yet (j := 9) (q := 0) hc hk rfl rfl rfl rfl) rfl rfl rfl rfl) rfl rfl rfl rfl)
       have e23 : S 23 = false := (not_yet (j := 23) (q := 3) hc (not_yet (j := 11) (q := 2) hc (not_yet (j := 10) (q := 0) hc (not_yet (j := 9) (q := 0) hc hk rfl rfl rfl rfl) rfl rfl rfl rfl) rfl rfl rfl rfl) rfl rfl rfl rfl)
       refine eq_H (H' := [.vec z38α.1 (q0) z38.2.1.span.was.cells, .obj true z33 z34 (.dat (q2 z38α.1)) z38.2.1, .obj true z11 z12 (.dat (q2 z44α)) z48.2, .vec z38α.2.2.1 (q0) z38.2.2.2.1.span.was.cells, .obj true z27 z28 (.dat (q1 z38α.2.2.1)) z38.2.2.2.1, .obj true z6 z7 (.dat (q1 z39α)) z42.2, .vec z38α.2.2.2.2.1 (q0) z38.2.2.2.2.2.1.span.was.cells, .obj true z21 z22 (.dat (q2 z38α.2.2.2.2.1)) z38.2.2.2.2.2.1, .vec z38α.2.2.2.2.2 (q0) z38.2.2.2.2.2.2.span.was.cells, .obj true z16 z17 (.dat (q1 z38α.2.2.2.2.2)) z38.2.2.2.2.2.2, .vec z39α (q0) z42.2.span.was.cells, .vec z44α (q0) z48.2.span.was.cells, .gone, .gone]) (by first | exact hB z50α S false false e11 e23 | (have q := hB z50α S false false e11 e23; simp only [cond_true, cond_false] at q; exact q)) ?_
       refine o_from (bind_eqO h_z52) ?_
       refine o_iaddr Try.underlying55 type67 rfl rfl (look_d rfl rfl (pr hp 0 rfl rfl)) (look_d rfl rfl (pr hp 1 rfl rfl)) rfl rfl (o_eqO ?_)
       apply h_endA (α := z50α) (z50α.1, z50α.2)
       ·exact (by (iterate 26 apply EqOn.same); exact .nil)
       ·exact rfl
       ·exact rfl
       ·exact rfl
       ·exact hB (z50α.1, z50α.2) (fun k => S k || Nat.beq k 8) false false (or_f e11 rfl) (or_f e23 rfl)
      ·intro z50α S hc hk hp
       have e11 : S 11 = false := (not_yet (j := 11) (q := 2) hc (not_yet (j := 10) (q := 0) hc hk rfl rfl rfl rfl) rfl rfl rfl rfl)
       have e23 : S 23 = false := (not_yet (j := 23) (q := 3) hc (not_yet (j := 11) (q := 2) hc (not_yet (j := 10) (q := 0) hc hk rfl rfl rfl rfl) rfl rfl rfl rfl) rfl rfl rfl rfl)
       refine eq_H (H' := [.vec z38α.1 (q0) z38.2.1.span.was.cells, .obj true z33 z34 (.dat (q2 z38α.1)) z38.2.1, .obj true z11 z12 (.dat (q2 z44α)) z48.2, .vec z38α.2.2.1 (q0) z38.2.2.2.1.span.was.cells, .obj true z27 z28 (.dat (q1 z38α.2.2.1)) z38.2.2.2.1, .obj true z6 z7 (.dat (q1 z39α)) z42.2, .vec z38α.2.2.2.2.1 (q0) z38.2.2.2.2.2.1.span.was.cells, .obj true z21 z22 (.dat (q2 z38α.2.2.2.2.1)) z38.2.2.2.2.2.1, .vec z38α.2.2.2.2.2 (q0) z38.2.2.2.2.2.2.span.was.cells, .obj true z16 z17 (.dat (q1 z38α.2.2.2.2.2)) z38.2.2.2.2.2.2, .vec z39α (q0) z42.2.span.was.cells, .vec z44α (q0) z48.2.span.was.cells, .gone, .gone]) (by first | exact hB z50α S false false e11 e23 | (have q := hB z50α S false false e11 e23; simp only [cond_true, cond_false] at q; exact q)) ?_
       refine o_fptr field67_1 type4 (by decide) T_law16_Step_foc1 rfl rfl guard_none (look_d rfl rfl (pr hp 0 rfl rfl)) (fun _ => rfl) ?_
       apply h_endA (α := z50α) (z50α.1, z50α.2)
       ·exact (by (iterate 26 apply EqOn.same); exact .nil)
       ·exact rfl
       ·exact rfl
       ·exact rfl
       ·exact hB (z50α.1, z50α.2) (fun k => S k || Nat.beq k 9) false false (or_f e11 rfl) (or_f e23 rfl)
      ·intro z50α S hc hk hp
       have e11 : S 11 = false := (not_yet (j := 11) (q := 2) hc hk rfl rfl rfl rfl)
       have e23 : S 23 = false := (not_yet (j := 23) (q := 3) hc (not_yet (j := 11) (q := 2) hc hk rfl rfl rfl rfl) rfl rfl rfl rfl)
       refine eq_H (H' := [.vec z38α.1 (q0) z38.2.1.span.was.cells, .obj true z33 z34 (.dat (q2 z38α.1)) z38.2.1, .obj true z11 z12 (.dat (q2 z44α)) z48.2, .vec z38α.2.2.1 (q0) z38.2.2.2.1.span.was.cells, .obj true z27 z28 (.dat (q1 z38α.2.2.1)) z38.2.2.2.1, .obj true z6 z7 (.dat (q1 z39α)) z42.2, .vec z38α.2.2.2.2.1 (q0) z38.2.2.2.2.2.1.span.was.cells, .obj true z21 z22 (.dat (q2 z38α.2.2.2.2.1)) z38.2.2.2.2.2.1, .vec z38α.2.2.2.2.2 (q0) z38.2.2.2.2.2.2.span.was.cells, .obj true z16 z17 (.dat (q1 z38α.2.2.2.2.2)) z38.2.2.2.2.2.2, .vec z39α (q0) z42.2.span.was.cells, .vec z44α (q0) z48.2.span.was.cells, .gone, .gone]) (by first | exact hB z50α S false false e11 e23 | (have q := hB z50α S false false e11 e23; simp only [cond_true, cond_false] at q; exact q)) ?_
       refine o_load type4 rfl rfl guard_none (look_d rfl rfl (pr hp 0 rfl rfl)) (fun _ => rfl) ?_
       apply h_endA (α := z50α) (z50α.1, z50α.2)
       ·exact (by (iterate 26 apply EqOn.same); exact .nil)
       ·exact rfl
       ·exact rfl
       ·exact rfl
       ·exact hB (z50α.1, z50α.2) (fun k => S k || Nat.beq k 10) false false (or_f e11 rfl) (or_f e23 rfl)
      ·intro z50α S hc hk hp
       have e23 : S 23 = false := (not_yet (j := 23) (q := 3) hc hk rfl rfl rfl rfl)
       refine eq_H (H' := [.vec z38α.1 (q0) z38.2.1.span.was.cells, .obj true z33 z34 (.dat (q2 z38α.1)) z38.2.1, .obj true z11 z12 (.dat (q2 z44α)) z48.2, .vec z38α.2.2.1 (q0) z38.2.2.2.1.span.was.cells, .obj true z27 z28 (.dat (q1 z38α.2.2.1)) z38.2.2.2.1, .obj true z6 z7 (.dat (q1 z39α)) z42.2, .vec z38α.2.2.2.2.1 (q0) z38.2.2.2.2.2.1.span.was.cells, .obj true z21 z22 (.dat (q2 z38α.2.2.2.2.1)) z38.2.2.2.2.2.1, .vec z38α.2.2.2.2.2 (q0) z38.2.2.2.2.2.2.span.was.cells, .obj true z16 z17 (.dat (q1 z38α.2.2.2.2.2)) z38.2.2.2.2.2.2, .vec z39α (q0) z42.2.span.was.cells, .vec z44α (q0) z48.2.span.was.cells, .gone, .gone]) (by first | exact hB z50α S false false hk e23 | (have q := hB z50α S false false hk e23; simp only [cond_true, cond_false] at q; exact q)) ?_
       refine o_from (bind_eqO h_z53) ?_
       refine o_weak (H' := [.vec z38α.2.2.1 (q0) z38.2.2.2.1.span.was.cells, .obj true z27 z28 (.dat (q1 z38α.2.2.1)) z38.2.2.2.1] ++ ([] ++ [.vec z38α.1 (q0) z38.2.1.span.was.cells, .obj true z33 z34 (.dat (q2 z38α.1)) z38.2.1, .obj true z11 z12 (.dat (q2 z44α)) z48.2, .obj true z6 z7 (.dat (q1 z39α)) z42.2, .vec z38α.2.2.2.2.1 (q0) z38.2.2.2.2.2.1.span.was.cells, .obj true z21 z22 (.dat (q2 z38α.2.2.2.2.1)) z38.2.2.2.2.2.1, .vec z38α.2.2.2.2.2 (q0) z38.2.2.2.2.2.2.span.was.cells, .obj true z16 z17 (.dat (q1 z38α.2.2.2.2.2)) z38.2.2.2.2.2.2, .vec z39α (q0) z42.2.span.was.cells, .vec z44α (q0) z48.2.span.was.cells, .gone, .gone])) (sub_pick [3, 4, 0, 1, 2, 5, 6, 7, 8, 9, 10, 11, 12, 13] rfl rfl) ?_
       refine o_callU rfl rfl rfl rfl rfl callable34 (looks_cons (look_d rfl rfl (pr hp 0 rfl rfl)) (fun _ => rfl) (looks_cons (look_d rfl rfl (pr hp 1 rfl rfl)) (fun _ => rfl) (looks_cons (look_d rfl rfl (pr hp 2 rfl rfl)) (fun _ => rfl) (looks_nil)))) .nil (window_Once_Step_ok _ _ _ z38.2.2.2.1 z51.At z52.F) (fun _ _ => (wr_v (wr_c wr_n))) (fun z54α => o_eqOH ?_)
       refine o_weak (H' := [.vec z54α (q0) z53.2.span.was.cells, .obj true z27 z28 (.dat (q1 z54α)) z53.2, .vec z38α.1 (q0) z38.2.1.span.was.cells, .obj true z33 z34 (.dat (q2 z38α.1)) z38.2.1, .obj true z11 z12 (.dat (q2 z44α)) z48.2, .obj true z6 z7 (.dat (q1 z39α)) z42.2, .vec z38α.2.2.2.2.1 (q0) z38.2.2.2.2.2.1.span.was.cells, .obj true z21 z22 (.dat (q2 z38α.2.2.2.2.1)) z38.2.2.2.2.2.1, .vec z38α.2.2.2.2.2 (q0) z38.2.2.2.2.2.2.span.was.cells, .obj true z16 z17 (.dat (q1 z38α.2.2.2.2.2)) z38.2.2.2.2.2.2, .vec z39α (q0) z42.2.span.was.cells, .vec z44α (q0) z48.2.span.was.cells, .gone, .gone]) (sub_pick [0, 1, 2, 3, 4, 5, 6, 7, 8, 9, 10, 11, 12, 13] rfl rfl) ?_
       refine o_weak sub_gone ?_
       refine o_weak (H' := [.vec z38α.1 (q0) z38.2.1.span.was.cells, .obj true z33 z34 (.dat (q2 z38α.1)) z38.2.1, .obj true z11 z12 (.dat (q2 z44α)) z48.2, .gone, .obj true z27 z28 (.dat (q1 z54α)) z53.2, .obj true z6 z7 (.dat (q1 z39α)) z42.2, .vec z38α.2.2.2.2.1 (q0) z38.2.2.2.2.2.1.span.was.cells, .obj true z21 z22 (.dat (q2 z38α.2.2.2.2.1)) z38.2.2.2.2.2.1, .vec z38α.2.2.2.2.2 (q0) z38.2.2.2.2.2.2.span.was.cells, .obj true z16 z17 (.dat (q1 z38α.2.2.2.2.2)) z38.2.2.2.2.2.2, .vec z39α (q0) z42.2.span.was.cells, .vec z44α (q0) z48.2.span.was.cells, .vec z54α (q0) z53.2.span.was.cells, .gone]) (sub_pick [3, 4, 5, 0, 2, 6, 7, 8, 9, 10, 11, 12, 1, 14] rfl rfl) ?_
       apply h_endA (α := z50α) (z54α, z50α.2)
       ·exact (by (iterate 26 apply EqOn.same); exact .nil)
       ·exact rfl
       ·exact rfl
       ·exact rfl
       ·exact hB (z54α, z50α.2) (fun k => S k || Nat.beq k 11) true false (or_i rfl) (or_f e23 rfl)
      ·intro z50α S hc hk hp
       have e23 : S 23 = false := (not_yet (j := 23) (q := 0) hc hk rfl rfl rfl rfl)
       refine eq_H (H' := [.vec z38α.1 (q0) z38.2.1.span.was.cells, .obj true z33 z34 (.dat (q2 z38α.1)) z38.2.1, .obj true z11 z12 (.dat (q2 z44α)) z48.2, (cond (S 11) (.gone) (.vec z38α.2.2.1 (q0) z38.2.2.2.1.span.was.cells)), (cond (S 11) (.obj true z27 z28 (.dat (q1 z50α.1)) z53.2) (.obj true z27 z28 (.dat (q1 z38α.2.2.1)) z38.2.2.2.1)), .obj true z6 z7 (.dat (q1 z39α)) z42.2, .vec z38α.2.2.2.2.1 (q0) z38.2.2.2.2.2.1.span.was.cells, .obj true z21 z22 (.dat (q2 z38α.2.2.2.2.1)) z38.2.2.2.2.2.1, .vec z38α.2.2.2.2.2 (q0) z38.2.2.2.2.2.2.span.was.cells, .obj true z16 z17 (.dat (q1 z38α.2.2.2.2.2)) z38.2.2.2.2.2.2, .vec z39α (q0) z42.2.span.was.cells, .vec z44α (q0) z48.2.span.was.cells, (cond (S 11) (.vec (z50α.1) (q0) z53.2.span.was.cells) (.gone)), .gone]) (by first | exact hB z50α S (S 11) false rfl e23 | (have q := hB z50α S (S 11) false rfl e23; simp only [cond_true, cond_false] at q; exact q)) ?_
       refine o_move rfl rfl guard_none (look_o rfl rfl) (fun _ => rfl) ?_
       apply h_endA (α := z50α) (z50α.1, z50α.2)
       ·exact (by (iterate 26 apply EqOn.same); exact .nil)
       ·exact rfl
       ·exact rfl
       ·exact rfl
       ·exact hB (z50α.1, z50α.2) (fun k => S k || Nat.beq k 12) (S 11) false (or_ne rfl) (or_f e23 rfl)
      ·intro z50α S hc hk hp
       have e23 : S 23 = false := (not_yet (j := 23) (q := 1) hc (not_yet (j := 17) (q := 0) hc (not_yet (j := 16) (q := 0) hc (not_yet (j := 15) (q := 0) hc hk rfl rfl rfl rfl) rfl rfl rfl rfl) rfl rfl rfl rfl) rfl rfl rfl rfl)
       refine eq_H (H' := [.vec z38α.1 (q0) z38.2.1.span.was.cells, .obj true z33 z34 (.dat (q2 z38α.1)) z38.2.1, .obj true z11 z12 (.dat (q2 z44α)) z48.2, (cond (S 11) (.gone) (.vec z38α.2.2.1 (q0) z38.2.2.2.1.span.was.cells)), (cond (S 11) (.obj true z27 z28 (.dat (q1 z50α.1)) z53.2) (.obj true z27 z28 (.dat (q1 z38α.2.2.1)) z38.2.2.2.1)), .obj true z6 z7 (.dat (q1 z39α)) z42.2, .vec z38α.2.2.2.2.1 (q0) z38.2.2.2.2.2.1.span.was.cells, .obj true z21 z22 (.dat (q2 z38α.2.2.2.2.1)) z38.2.2.2.2.2.1, .vec z38α.2.2.2.2.2 (q0) z38.2.2.2.2.2.2.span.was.cells, .obj true z16 z17 (.dat (q1 z38α.2.2.2.2.2)) z38.2.2.2.2.2.2, .vec z39α (q0) z42.2.span.was.cells, .vec z44α (q0) z48.2.span.was.cells, (cond (S 11) (.vec (z50α.1) (q0) z53.2.span.was.cells) (.gone)), .gone]) (by first | exact hB z50α S (S 11) false rfl e23 | (have q := hB z50α S (S 11) false rfl e23; simp only [cond_true, cond_false] at q; exact q)) ?_
       refine o_move rfl rfl guard_none (look_o rfl rfl) (fun _ => rfl) ?_
       apply h_endA (α := z50α) (z50α.1, z50α.2)
       ·exact (by (iterate 26 apply EqOn.same); exact .nil)
       ·exact rfl
       ·exact rfl
       ·exact rfl
       ·exact hB (z50α.1, z50α.2) (fun k => S k || Nat.beq k 13) (S 11) false (or_ne rfl) (or_f e23 rfl)
      ·intro z50α S hc hk hp
       have e23 : S 23 = false := (not_yet (j := 23) (q := 1) hc (not_yet (j := 17) (q := 0) hc (not_yet (j := 16) (q := 0) hc (not_yet (j := 15) (q := 1) hc hk rfl rfl rfl rfl) rfl rfl rfl rfl) rfl rfl rfl rfl) rfl rfl rfl rfl)
       refine eq_H (H' := [.vec z38α.1 (q0) z38.2.1.span.was.cells, .obj true z33 z34 (.dat (q2 z38α.1)) z38.2.1, .obj true z11 z12 (.dat (q2 z44α)) z48.2, (cond (S 11) (.gone) (.vec z38α.2.2.1 (q0) z38.2.2.2.1.span.was.cells)), (cond (S 11) (.obj true z27 z28 (.dat (q1 z50α.1)) z53.2) (.obj true z27 z28 (.dat (q1 z38α.2.2.1)) z38.2.2.2.1)), .obj true z6 z7 (.dat (q1 z39α)) z42.2, .vec z38α.2.2.2.2.1 (q0) z38.2.2.2.2.2.1.span.was.cells, .obj true z21 z22 (.dat (q2 z38α.2.2.2.2.1)) z38.2.2.2.2.2.1, .vec z38α.2.2.2.2.2 (q0) z38.2.2.2.2.2.2.span.was.cells, .obj true z16 z17 (.dat (q1 z38α.2.2.2.2.2)) z38.2.2.2.2.2.2, .vec z39α (q0) z42.2.span.was.cells, .vec z44α (q0) z48.2.span.was.cells, (cond (S 11) (.vec (z50α.1) (q0) z53.2.span.was.cells) (.gone)), .gone]) (by first | exact hB z50α S (S 11) false rfl e23 | (have q := hB z50α S (S 11) false rfl e23; simp only [cond_true, cond_false] at q; exact q)) ?_
       refine o_move rfl rfl guard_none (look_o rfl rfl) (fun _ => rfl) ?_
       apply h_endA (α := z50α) (z50α.1, z50α.2)
       ·exact (by (iterate 26 apply EqOn.same); exact .nil)
       ·exact rfl
       ·exact rfl
       ·exact rfl
       ·exact hB (z50α.1, z50α.2) (fun k => S k || Nat.beq k 14) (S 11) false (or_ne rfl) (or_f e23 rfl)
      ·intro z50α S hc hk hp
       have e23 : S 23 = false := (not_yet (j := 23) (q := 1) hc (not_yet (j := 17) (q := 0) hc (not_yet (j := 16) (q := 0) hc hk rfl rfl rfl rfl) rfl rfl rfl rfl) rfl rfl rfl rfl)
       refine eq_H (H' := [.vec z38α.1 (q0) z38.2.1.span.was.cells, .obj true z33 z34 (.dat (q2 z38α.1)) z38.2.1, .obj true z11 z12 (.dat (q2 z44α)) z48.2, (cond (S 11) (.gone) (.vec z38α.2.2.1 (q0) z38.2.2.2.1.span.was.cells)), (cond (S 11) (.obj true z27 z28 (.dat (q1 z50α.1)) z53.2) (.obj true z27 z28 (.dat (q1 z38α.2.2.1)) z38.2.2.2.1)), .obj true z6 z7 (.dat (q1 z39α)) z42.2, .vec z38α.2.2.2.2.1 (q0) z38.2.2.2.2.2.1.span.was.cells, .obj true z21 z22 (.dat (q2 z38α.2.2.2.2.1)) z38.2.2.2.2.2.1, .vec z38α.2.2.2.2.2 (q0) z38.2.2.2.2.2.2.span.was.cells, .obj true z16 z17 (.dat (q1 z38α.2.2.2.2.2)) z38.2.2.2.2.2.2, .vec z39α (q0) z42.2.span.was.cells, .vec z44α (q0) z48.2.span.was.cells, (cond (S 11) (.vec (z50α.1) (q0) z53.2.span.was.cells) (.gone)), .gone]) (by first | exact hB z50α S (S 11) false rfl e23 | (have q := hB z50α S (S 11) false rfl e23; simp only [cond_true, cond_false] at q; exact q)) ?_
       refine o_from (bind_eqO h_z55) ?_
       refine o_iaddr Try.underlying55 type67 rfl rfl (look_d rfl rfl (pr hp 0 rfl rfl)) (look_d rfl rfl (pr hp 1 rfl rfl)) rfl rfl (o_eqO ?_)
       apply h_endA (α := z50α) (z50α.1, z50α.2)
       ·exact (by (iterate 26 apply EqOn.same); exact .nil)
       ·exact rfl
       ·exact rfl
       ·exact rfl
       ·exact hB (z50α.1, z50α.2) (fun k => S k || Nat.beq k 15) (S 11) false (or_ne rfl) (or_f e23 rfl)
      ·intro z50α S hc hk hp
       have e23 : S 23 = false := (not_yet (j := 23) (q := 1) hc (not_yet (j := 17) (q := 0) hc hk rfl rfl rfl rfl) rfl rfl rfl rfl)
       refine eq_H (H' := [.vec z38α.1 (q0) z38.2.1.span.was.cells, .obj true z33 z34 (.dat (q2 z38α.1)) z38.2.1, .obj true z11 z12 (.dat (q2 z44α)) z48.2, (cond (S 11) (.gone) (.vec z38α.2.2.1 (q0) z38.2.2.2.1.span.was.cells)), (cond (S 11) (.obj true z27 z28 (.dat (q1 z50α.1)) z53.2) (.obj true z27 z28 (.dat (q1 z38α.2.2.1)) z38.2.2.2.1)), .obj true z6 z7 (.dat (q1 z39α)) z42.2, .vec z38α.2.2.2.2.1 (q0) z38.2.2.2.2.2.1.span.was.cells, .obj true z21 z22 (.dat (q2 z38α.2.2.2.2.1)) z38.2.2.2.2.2.1, .vec z38α.2.2.2.2.2 (q0) z38.2.2.2.2.2.2.span.was.cells, .obj true z16 z17 (.dat (q1 z38α.2.2.2.2.2)) z38.2.2.2.2.2.2, .vec z39α (q0) z42.2.span.was.cells, .vec z44α (q0) z48.2.span.was.cells, (cond (S 11) (.vec (z50α.1) (q0) z53.2.span.was.cells) (.gone)), .gone]) (by first | exact hB z50α S (S 11) false rfl e23 | (have q := hB z50α S (S 11) false rfl e23; simp only [cond_true, cond_false] at q; exact q)) ?_
       refine o_fptr field67_0 type2 (by decide) T_law16_Step_foc0 rfl rfl guard_none (look_d rfl rfl (pr hp 0 rfl rfl)) (fun _ => rfl) ?_
       apply h_endA (α := z50α) (z50α.1, z50α.2)
       ·exact (by (iterate 26 apply EqOn.same); exact .nil)
       ·exact rfl
       ·exact rfl
       ·exact rfl
       ·exact hB (z50α.1, z50α.2) (fun k => S k || Nat.beq k 16) (S 11) false (or_ne rfl) (or_f e23 rfl)
      ·intro z50α S hc hk hp
       have e23 : S 23 = false := (not_yet (j := 23) (q := 1) hc hk rfl rfl rfl rfl)
       refine eq_H (H' := [.vec z38α.1 (q0) z38.2.1.span.was.cells, .obj true z33 z34 (.dat (q2 z38α.1)) z38.2.1, .obj true z11 z12 (.dat (q2 z44α)) z48.2, (cond (S 11) (.gone) (.vec z38α.2.2.1 (q0) z38.2.2.2.1.span.was.cells)), (cond (S 11) (.obj true z27 z28 (.dat (q1 z50α.1)) z53.2) (.obj true z27 z28 (.dat (q1 z38α.2.2.1)) z38.2.2.2.1)), .obj true z6 z7 (.dat (q1 z39α)) z42.2, .vec z38α.2.2.2.2.1 (q0) z38.2.2.2.2.2.1.span.was.cells, .obj true z21 z22 (.dat (q2 z38α.2.2.2.2.1)) z38.2.2.2.2.2.1, .vec z38α.2.2.2.2.2 (q0) z38.2.2.2.2.2.2.span.was.cells, .obj true z16 z17 (.dat (q1 z38α.2.2.2.2.2)) z38.2.2.2.2.2.2, .vec z39α (q0) z42.2.span.was.cells, .vec z44α (q0) z48.2.span.was.cells, (cond (S 11) (.vec (z50α.1) (q0) z53.2.span.was.cells) (.gone)), .gone]) (by first | exact hB z50α S (S 11) false rfl e23 | (have q := hB z50α S (S 11) false rfl e23; simp only [cond_true, cond_false] at q; exact q)) ?_
       refine o_load type2 rfl rfl guard_none (look_d rfl rfl (pr hp 0 rfl rfl)) (fun _ => rfl) ?_
       apply h_endA (α := z50α) (z50α.1, z50α.2)
       ·exact (by (iterate 26 apply EqOn.same); exact .nil)
       ·exact rfl
       ·exact rfl
       ·exact rfl
       ·exact hB (z50α.1, z50α.2) (fun k => S k || Nat.beq k 17) (S 11) false (or_ne rfl) (or_f e23 rfl)
      ·intro z50α S hc hk hp
       have e23 : S 23 = false := (not_yet (j := 23) (q := 2) hc (not_yet (j := 22) (q := 0) hc (not_yet (j := 21) (q := 0) hc (not_yet (j := 20) (q := 0) hc hk rfl rfl rfl rfl) rfl rfl rfl rfl) rfl rfl rfl rfl) rfl rfl rfl rfl)
       refine eq_H (H' := [.vec z38α.1 (q0) z38.2.1.span.was.cells, .obj true z33 z34 (.dat (q2 z38α.1)) z38.2.1, .obj true z11 z12 (.dat (q2 z44α)) z48.2, (cond (S 11) (.gone) (.vec z38α.2.2.1 (q0) z38.2.2.2.1.span.was.cells)), (cond (S 11) (.obj true z27 z28 (.dat (q1 z50α.1)) z53.2) (.obj true z27 z28 (.dat (q1 z38α.2.2.1)) z38.2.2.2.1)), .obj true z6 z7 (.dat (q1 z39α)) z42.2, .vec z38α.2.2.2.2.1 (q0) z38.2.2.2.2.2.1.span.was.cells, .obj true z21 z22 (.dat (q2 z38α.2.2.2.2.1)) z38.2.2.2.2.2.1, .vec z38α.2.2.2.2.2 (q0) z38.2.2.2.2.2.2.span.was.cells, .obj true z16 z17 (.dat (q1 z38α.2.2.2.2.2)) z38.2.2.2.2.2.2, .vec z39α (q0) z42.2.span.was.cells, .vec z44α (q0) z48.2.span.was.cells, (cond (S 11) (.vec (z50α.1) (q0) z53.2.span.was.cells) (.gone)), .gone]) (by first | exact hB z50α S (S 11) false rfl e23 | (have q := hB z50α S (S 11) false rfl e23; simp only [cond_true, cond_false] at q; exact q)) ?_
       refine o_move rfl rfl guard_none (look_o rfl rfl) (fun _ => rfl) ?_
       apply h_endA (α := z50α) (z50α.1, z50α.2)
       ·exact (by (iterate 26 apply EqOn.same); exact .nil)
       ·exact rfl
       ·exact rfl
       ·exact rfl
       ·exact hB (z50α.1, z50α.2) (fun k => S k || Nat.beq k 18) (S 11) false (or_ne rfl) (or_f e23 rfl)
      ·intro z50α S hc hk hp
       have e23 : S 23 = false := (not_yet (j := 23) (q := 2) hc (not_yet (j := 22) (q := 0) hc (not_yet (j := 21) (q := 0) hc (not_yet (j := 20) (q := 1) hc hk rfl rfl rfl rfl) rfl rfl rfl rfl) rfl rfl rfl rfl) rfl rfl rfl rfl)
       refine eq_H (H' := [.vec z38α.1 (q0) z38.2.1.span.was.cells, .obj true z33 z34 (.dat (q2 z38α.1)) z38.2.1, .obj true z11 z12 (.dat (q2 z44α)) z48.2, (cond (S 11) (.gone) (.vec z38α.2.2.1 (q0) z38.2.2.2.1.span.was.cells)), (cond (S 11) (.obj true z27 z28 (.dat (q1 z50α.1)) z53.2) (.obj true z27 z28 (.dat (q1 z38α.2.2.1)) z38.2.2.2.1)), .obj true z6 z7 (.dat (q1 z39α)) z42.2, .vec z38α.2.2.2.2.1 (q0) z38.2.2.2.2.2.1.span.was.cells, .obj true z21 z22 (.dat (q2 z38α.2.2.2.2.1)) z38.2.2.2.2.2.1, .vec z38α.2.2.2.2.2 (q0) z38.2.2.2.2.2.2.span.was.cells, .obj true z16 z17 (.dat (q1 z38α.2.2.2.2.2)) z38.2.2.2.2.2.2, .vec z39α (q0) z42.2.span.was.cells, .vec z44α (q0) z48.2.span.was.cells, (cond (S 11) (.vec (z50α.1) (q0) z53.2.span.was.cells) (.gone)), .gone]) (by first | exact hB z50α S (S 11) false rfl e23 | (have q := hB z50α S (S 11) false rfl e23; simp only [cond_true, cond_false] at q; exact q)) ?_
       refine o_move rfl rfl guard_none (look_o rfl rfl) (fun _ => rfl) ?_
       apply h_endA (α := z50α) (z50α.1, z50α.2)
       ·exact (by (iterate 26 apply EqOn.same); exact .nil)
       ·exact rfl
       ·exact rfl
       ·exact rfl
       ·exact hB (z50α.1, z50α.2) (fun k => S k || Nat.beq k 19) (S 11) false (or_ne rfl) (or_f e23 rfl)
      ·intro z50α S hc hk hp
       have e23 : S 23 = false := (not_yet (j := 23) (q := 2) hc (not_yet (j := 22) (q := 0) hc (not_yet (j := 21) (q := 0) hc hk rfl rfl rfl rfl) rfl rfl rfl rfl) rfl rfl rfl rfl)
       refine eq_H (H' := [.vec z38α.1 (q0) z38.2.1.span.was.cells, .obj true z33 z34 (.dat (q2 z38α.1)) z38.2.1, .obj true z11 z12 (.dat (q2 z44α)) z48.2, (cond (S 11) (.gone) (.vec z38α.2.2.1 (q0) z38.2.2.2.1.span.was.cells)), (cond (S 11) (.obj true z27 z28 (.dat (q1 z50α.1)) z53.2) (.obj true z27 z28 (.dat (q1 z38α.2.2.1)) z38.2.2.2.1)), .obj true z6 z7 (.dat (q1 z39α)) z42.2, .vec z38α.2.2.2.2.1 (q0) z38.2.2.2.2.2.1.span.was.cells, .obj true z21 z22 (.dat (q2 z38α.2.2.2.2.1)) z38.2.2.2.2.2.1, .vec z38α.2.2.2.2.2 (q0) z38.2.2.2.2.2.2.span.was.cells, .obj true z16 z17 (.dat (q1 z38α.2.2.2.2.2)) z38.2.2.2.2.2.2, .vec z39α (q0) z42.2.span.was.cells, .vec z44α (q0) z48.2.span.was.cells, (cond (S 11) (.vec (z50α.1) (q0) z53.2.span.was.cells) (.gone)), .gone]) (by first | exact hB z50α S (S 11) false rfl e23 | (have q := hB z50α S (S 11) false rfl e23; simp only [cond_true, cond_false] at q; exact q)) ?_
       refine o_from (bind_eqO h_z56) ?_
       refine o_iaddr Try.underlying55 type67 rfl rfl (look_d rfl rfl (pr hp 0 rfl rfl)) (look_d rfl rfl (pr hp 1 rfl rfl)) rfl rfl (o_eqO ?_)
       apply h_endA (α := z50α) (z50α.1, z50α.2)
       ·exact (by (iterate 26 apply EqOn.same); exact .nil)
       ·exact rfl
       ·exact rfl
       ·exact rfl
       ·exact hB (z50α.1, z50α.2) (fun k => S k || Nat.beq k 20) (S 11) false (or_ne rfl) (or_f e23 rfl)
      ·intro z50α S hc hk hp
       have e23 : S 23 = false := (not_yet (j := 23) (q := 2) hc (not_yet (j := 22) (q := 0) hc hk rfl rfl rfl rfl) rfl rfl rfl rfl)
       refine eq_H (H' := [.vec z38α.1 (q0) z38.2.1.span.was.cells, .obj true z33 z34 (.dat (q2 z38α.1)) z38.2.1, .obj true z11 z12 (.dat (q2 z44α)) z48.2, (cond (S 11) (.gone) (.vec z38α.2.2.1 (q0) z38.2.2.2.1.span.was.cells)), (cond (S 11) (.obj true z27 z28 (.dat (q1 z50α.1)) z53.2) (.obj true z27 z28 (.dat (q1 z38α.2.2.1)) z38.2.2.2.1)), .obj true z6 z7 (.dat (q1 z39α)) z42.2, .vec z38α.2.2.2.2.1 (q0) z38.2.2.2.2.2.1.span.was.cells, .obj true z21 z22 (.dat (q2 z38α.2.2.2.2.1)) z38.2.2.2.2.2.1, .vec z38α.2.2.2.2.2 (q0) z38.2.2.2.2.2.2.span.was.cells, .obj true z16 z17 (.dat (q1 z38α.2.2.2.2.2)) z38.2.2.2.2.2.2, .vec z39α (q0) z42.2.span.was.cells, .vec z44α (q0) z48.2.span.was.cells, (cond (S 11) (.vec (z50α.1) (q0) z53.2.span.was.cells) (.gone)), .gone]) (by first | exact hB z50α S (S 11) false rfl e23 | (have q := hB z50α S (S 11) false rfl e23; simp only [cond_true, cond_false] at q; exact q)) ?_
       refine o_fptr field67_1 type4 (by decide) T_law16_Step_foc1 rfl rfl guard_none (look_d rfl rfl (pr hp 0 rfl rfl)) (fun _ => rfl) ?_
       apply h_endA (α := z50α) (z50α.1, z50α.2)
       ·exact (by (iterate 26 apply EqOn.same); exact .nil)
       ·exact rfl
       ·exact rfl
       ·exact rfl
       ·exact hB (z50α.1, z50α.2) (fun k => S k || Nat.beq k 21) (S 11) false (or_ne rfl) (or_f e23 rfl)
      ·intro z50α S hc hk hp
       have e23 : S 23 = false := (not_yet (j := 23) (q := 2) hc hk rfl rfl rfl rfl)
       refine eq_H (H' := [.vec z38α.1 (q0) z38.2.1.span.was.cells, .obj true z33 z34 (.dat (q2 z38α.1)) z38.2.1, .obj true z11 z12 (.dat (q2 z44α)) z48.2, (cond (S 11) (.gone) (.vec z38α.2.2.1 (q0) z38.2.2.2.1.span.was.cells)), (cond (S 11) (.obj true z27 z28 (.dat (q1 z50α.1)) z53.2) (.obj true z27 z28 (.dat (q1 z38α.2.2.1)) z38.2.2.2.1)), .obj true z6 z7 (.dat (q1 z39α)) z42.2, .vec z38α.2.2.2.2.1 (q0) z38.2.2.2.2.2.1.span.was.cells, .obj true z21 z22 (.dat (q2 z38α.2.2.2.2.1)) z38.2.2.2.2.2.1, .vec z38α.2.2.2.2.2 (q0) z38.2.2.2.2.2.2.span.was.cells, .obj true z16 z17 (.dat (q1 z38α.2.2.2.2.2)) z38.2.2.2.2.2.2, .vec z39α (q0) z42.2.span.was.cells, .vec z44α (q0) z48.2.span.was.cells, (cond (S 11) (.vec (z50α.1) (q0) z53.2.span.was.cells) (.gone)), .gone]) (by first | exact hB z50α S (S 11) false rfl e23 | (have q := hB z50α S (S 11) false rfl e23; simp only [cond_true, cond_false] at q; exact q)) ?_
       refine o_load type4 rfl rfl guard_none (look_d rfl rfl (pr hp 0 rfl rfl)) (fun _ => rfl) ?_
       apply h_endA (α := z50α) (z50α.1, z50α.2)
       ·exact (by (iterate 26 apply EqOn.same); exact .nil)
       ·exact rfl
       ·exact rfl
       ·exact rfl
       ·exact hB (z50α.1, z50α.2) (fun k => S k || Nat.beq k 22) (S 11) false (or_ne rfl) (or_f e23 rfl)
      ·intro z50α S hc hk hp
       have e11 : S 11 = true := (pr hp 3 rfl rfl)
       refine eq_H (H' := [.vec z38α.1 (q0) z38.2.1.span.was.cells, .obj true z33 z34 (.dat (q2 z38α.1)) z38.2.1, .obj true z11 z12 (.dat (q2 z44α)) z48.2, .gone, .obj true z27 z28 (.dat (q1 z50α.1)) z53.2, .obj true z6 z7 (.dat (q1 z39α)) z42.2, .vec z38α.2.2.2.2.1 (q0) z38.2.2.2.2.2.1.span.was.cells, .obj true z21 z22 (.dat (q2 z38α.2.2.2.2.1)) z38.2.2.2.2.2.1, .vec z38α.2.2.2.2.2 (q0) z38.2.2.2.2.2.2.span.was.cells, .obj true z16 z17 (.dat (q1 z38α.2.2.2.2.2)) z38.2.2.2.2.2.2, .vec z39α (q0) z42.2.span.was.cells, .vec z44α (q0) z48.2.span.was.cells, .vec (z50α.1) (q0) z53.2.span.was.cells, .gone]) (by first | exact hB z50α S true false e11 hk | (have q := hB z50α S true false e11 hk; simp only [cond_true, cond_false] at q; exact q)) ?_
       refine o_from (bind_eqO h_z57) ?_
       refine o_weak (H' := [.vec z38α.2.2.2.2.2 (q0) z38.2.2.2.2.2.2.span.was.cells, .obj true z16 z17 (.dat (q1 z38α.2.2.2.2.2)) z38.2.2.2.2.2.2] ++ ([] ++ [.vec z38α.1 (q0) z38.2.1.span.was.cells, .obj true z33 z34 (.dat (q2 z38α.1)) z38.2.1, .obj true z11 z12 (.dat (q2 z44α)) z48.2, .gone, .obj true z27 z28 (.dat (q1 z50α.1)) z53.2, .obj true z6 z7 (.dat (q1 z39α)) z42.2, .vec z38α.2.2.2.2.1 (q0) z38.2.2.2.2.2.1.span.was.cells, .obj true z21 z22 (.dat (q2 z38α.2.2.2.2.1)) z38.2.2.2.2.2.1, .vec z39α (q0) z42.2.span.was.cells, .vec z44α (q0) z48.2.span.was.cells, .vec (z50α.1) (q0) z53.2.span.was.cells, .gone])) (sub_pick [8, 9, 0, 1, 2, 3, 4, 5, 6, 7, 10, 11, 12, 13] rfl rfl) ?_
       refine o_callU rfl rfl rfl rfl rfl callable34 (looks_cons (look_d rfl rfl (pr hp 0 rfl rfl)) (fun _ => rfl) (looks_cons (look_d rfl rfl (pr hp 1 rfl rfl)) (fun _ => rfl) (looks_cons (look_d rfl rfl (pr hp 2 rfl rfl)) (fun _ => rfl) (looks_nil)))) .nil (window_Once_Step_ok _ _ _ z38.2.2.2.2.2.2 z55.At z56.F) (fun _ _ => (wr_v (wr_c wr_n))) (fun z58α => o_eqOH ?_)
       refine o_weak (H' := [.vec z58α (q0) z57.2.span.was.cells, .obj true z16 z17 (.dat (q1 z58α)) z57.2, .vec z38α.1 (q0) z38.2.1.span.was.cells, .obj true z33 z34 (.dat (q2 z38α.1)) z38.2.1, .obj true z11 z12 (.dat (q2 z44α)) z48.2, .gone, .obj true z27 z28 (.dat (q1 z50α.1)) z53.2, .obj true z6 z7 (.dat (q1 z39α)) z42.2, .vec z38α.2.2.2.2.1 (q0) z38.2.2.2.2.2.1.span.was.cells, .obj true z21 z22 (.dat (q2 z38α.2.2.2.2.1)) z38.2.2.2.2.2.1, .vec z39α (q0) z42.2.span.was.cells, .vec z44α (q0) z48.2.span.was.cells, .vec (z50α.1) (q0) z53.2.span.was.cells, .gone]) (sub_pick [0, 1, 2, 3, 4, 5, 6, 7, 8, 9, 10, 11, 12, 13] rfl rfl) ?_
       refine o_weak sub_gone ?_
       refine o_weak (H' := [.vec z38α.1 (q0) z38.2.1.span.was.cells, .obj true z33 z34 (.dat (q2 z38α.1)) z38.2.1, .obj true z11 z12 (.dat (q2 z44α)) z48.2, .gone, .obj true z27 z28 (.dat (q1 z50α.1)) z53.2, .obj true z6 z7 (.dat (q1 z39α)) z42.2, .vec z38α.2.2.2.2.1 (q0) z38.2.2.2.2.2.1.span.was.cells, .obj true z21 z22 (.dat (q2 z38α.2.2.2.2.1)) z38.2.2.2.2.2.1, .gone, .obj true z16 z17 (.dat (q1 z58α)) z57.2, .vec z39α (q0) z42.2.span.was.cells, .vec z44α (q0) z48.2.span.was.cells, .vec (z50α.1) (q0) z53.2.span.was.cells, .vec z58α (q0) z57.2.span.was.cells]) (sub_pick [3, 4, 5, 6, 7, 8, 9, 10, 0, 2, 11, 12, 13, 1] rfl rfl) ?_
       apply h_endA (α := z50α) (z50α.1, z58α)
       ·exact (by (iterate 26 apply EqOn.same); exact .nil)
       ·exact rfl
       ·exact rfl
       ·exact rfl
       ·exact hB (z50α.1, z58α) (fun k => S k || Nat.beq k 23) true true (or_t e11) (or_i rfl)
      ·intro z50α S hc hk hp
       have e11 : S 11 = true := (pr hp 0 rfl rfl)
       have e23 : S 23 = true := (pr hp 1 rfl rfl)
       refine eq_H (H' := [.vec z38α.1 (q0) z38.2.1.span.was.cells, .obj true z33 z34 (.dat (q2 z38α.1)) z38.2.1, .obj true z11 z12 (.dat (q2 z44α)) z48.2, .gone, .obj true z27 z28 (.dat (q1 z50α.1)) z53.2, .obj true z6 z7 (.dat (q1 z39α)) z42.2, .vec z38α.2.2.2.2.1 (q0) z38.2.2.2.2.2.1.span.was.cells, .obj true z21 z22 (.dat (q2 z38α.2.2.2.2.1)) z38.2.2.2.2.2.1, .gone, .obj true z16 z17 (.dat (q1 z50α.2)) z57.2, .vec z39α (q0) z42.2.span.was.cells, .vec z44α (q0) z48.2.span.was.cells, .vec (z50α.1) (q0) z53.2.span.was.cells, .vec (z50α.2) (q0) z57.2.span.was.cells]) (by first | exact hB z50α S true true e11 e23 | (have q := hB z50α S true true e11 e23; simp only [cond_true, cond_false] at q; exact q)) ?_
       refine o_assign rfl rfl guard_none (look_d rfl rfl (pr hp 0 rfl rfl)) (fun _ => rfl) ?_
       apply h_endA (α := z50α) (z50α.1, z50α.2)
       ·exact (by (iterate 26 apply EqOn.same); exact .nil)
       ·exact rfl
       ·exact rfl
       ·exact rfl
       ·exact hB (z50α.1, z50α.2) (fun k => S k || Nat.beq k 24) true true (or_t e11) (or_t e23)
      ·intro z50α S hc hk hp
       have e11 : S 11 = true := (pr hp 13 rfl rfl)
       have e23 : S 23 = true := (pr hp 0 rfl rfl)
       refine eq_H (H' := [.vec z38α.1 (q0) z38.2.1.span.was.cells, .obj true z33 z34 (.dat (q2 z38α.1)) z38.2.1, .obj true z11 z12 (.dat (q2 z44α)) z48.2, .gone, .obj true z27 z28 (.dat (q1 z50α.1)) z53.2, .obj true z6 z7 (.dat (q1 z39α)) z42.2, .vec z38α.2.2.2.2.1 (q0) z38.2.2.2.2.2.1.span.was.cells, .obj true z21 z22 (.dat (q2 z38α.2.2.2.2.1)) z38.2.2.2.2.2.1, .gone, .obj true z16 z17 (.dat (q1 z50α.2)) z57.2, .vec z39α (q0) z42.2.span.was.cells, .vec z44α (q0) z48.2.span.was.cells, .vec (z50α.1) (q0) z53.2.span.was.cells, .vec (z50α.2) (q0) z57.2.span.was.cells]) (by first | exact hB z50α S true true e11 e23 | (have q := hB z50α S true true e11 e23; simp only [cond_true, cond_false] at q; exact q)) ?_
       refine o_assign rfl rfl guard_none (look_d rfl rfl (pr hp 0 rfl rfl)) (fun _ => rfl) ?_
       apply h_endA (α := z50α) (z50α.1, z50α.2)
       ·exact (by (iterate 26 apply EqOn.same); exact .nil)
       ·exact rfl
       ·exact rfl
       ·exact rfl
       ·exact hB (z50α.1, z50α.2) (fun k => S k || Nat.beq k 25) true true (or_t e11) (or_t e23)
      refine den_weak (H' := [.vec z38α.1 (q0) z38.2.1.span.was.cells, .obj true z33 z34 (.dat (q2 z38α.1)) z38.2.1, .obj true z11 z12 (.dat (q2 z44α)) z48.2, .obj true z27 z28 (.dat (q1 z50α.1)) z53.2, .obj true z6 z7 (.dat (q1 z39α)) z42.2, .vec z38α.2.2.2.2.1 (q0) z38.2.2.2.2.2.1.span.was.cells, .obj true z21 z22 (.dat (q2 z38α.2.2.2.2.1)) z38.2.2.2.2.2.1, .obj true z16 z17 (.dat (q1 z50α.2)) z57.2, .vec z39α (q0) z42.2.span.was.cells, .vec z44α (q0) z48.2.span.was.cells, .vec z50α.1 (q0) z53.2.span.was.cells, .vec z50α.2 (q0) z57.2.span.was.cells]) (sub_pick [0, 1, 2, 4, 5, 6, 7, 9, 10, 11, 12, 13] rfl rfl) ?_
      refine den_seq ?_
      refine den_open (fun z60 h_z60 => ?_)
      refine den_open (fun z61 h_z61 => ?_)
      refine den_open (fun z62 h_z62 => ?_)
      refine den_open (fun z63 h_z63 => ?_)
      refine den_open (fun z65 h_z65 => ?_)
      refine den_open (fun z66 h_z66 => ?_)
      refine den_open (fun z67 h_z67 => ?_)
      refine den_open (fun z68 h_z68 => ?_)
      have hB : ∀ (z59α : (Value × Value)) (S : Nat → Bool) (b16 b33 : Bool), S 16 = b16 → S 33 = b33 → (([(cond (S 16) (.gone) (.vec z38α.1 (q0) z38.2.1.span.was.cells)), (cond (S 16) (.obj true z33 z34 (.dat (q2 z59α.1)) z63.2) (.obj true z33 z34 (.dat (q2 z38α.1)) z38.2.1)), .obj true z11 z12 (.dat (q2 z44α)) z48.2, .obj true z27 z28 (.dat (q1 z50α.1)) z53.2, .obj true z6 z7 (.dat (q1 z39α)) z42.2, (cond (S 33) (.gone) (.vec z38α.2.2.2.2.1 (q0) z38.2.2.2.2.2.1.span.was.cells)), (cond (S 33) (.obj true z21 z22 (.dat (q2 z59α.2)) z68.2) (.obj true z21 z22 (.dat (q2 z38α.2.2.2.2.1)) z38.2.2.2.2.2.1)), .obj true z16 z17 (.dat (q1 z50α.2)) z57.2, .vec z39α (q0) z42.2.span.was.cells, .vec z44α (q0) z48.2.span.was.cells, .vec z50α.1 (q0) z53.2.span.was.cells, .vec z50α.2 (q0) z57.2.span.was.cells, (cond (S 16) (.vec (z59α.1) (q0) z63.2.span.was.cells) (.gone)), (cond (S 33) (.vec (z59α.2) (q0) z68.2.span.was.cells) (.gone))] : List Go.Eng.Item)) = ([(cond b16 (.gone) (.vec z38α.1 (q0) z38.2.1.span.was.cells)), (cond b16 (.obj true z33 z34 (.dat (q2 z59α.1)) z63.2) (.obj true z33 z34 (.dat (q2 z38α.1)) z38.2.1)), .obj true z11 z12 (.dat (q2 z44α)) z48.2, .obj true z27 z28 (.dat (q1 z50α.1)) z53.2, .obj true z6 z7 (.dat (q1 z39α)) z42.2, (cond b33 (.gone) (.vec z38α.2.2.2.2.1 (q0) z38.2.2.2.2.2.1.span.was.cells)), (cond b33 (.obj true z21 z22 (.dat (q2 z59α.2)) z68.2) (.obj true z21 z22 (.dat (q2 z38α.2.2.2.2.1)) z38.2.2.2.2.2.1)), .obj true z16 z17 (.dat (q1 z50α.2)) z57.2, .vec z39α (q0) z42.2.span.was.cells, .vec z44α (q0) z48.2.span.was.cells, .vec z50α.1 (q0) z53.2.span.was.cells, .vec z50α.2 (q0) z57.2.span.was.cells, (cond b16 (.vec (z59α.1) (q0) z63.2.span.was.cells) (.gone)), (cond b33 (.vec (z59α.2) (q0) z68.2.span.was.cells) (.gone))] : List Go.Eng.Item) := fun z59α S b16 b33 h16 h33 => by subst h16; subst h33; rfl
      refine den_weak sub_gone ?_
      refine den_weak sub_gone ?_
      refine den_weak (sub_pick (H' := [.vec z38α.1 (q0) z38.2.1.span.was.cells, .obj true z33 z34 (.dat (q2 z38α.1)) z38.2.1, .obj true z11 z12 (.dat (q2 z44α)) z48.2, .obj true z27 z28 (.dat (q1 z50α.1)) z53.2, .obj true z6 z7 (.dat (q1 z39α)) z42.2, .vec z38α.2.2.2.2.1 (q0) z38.2.2.2.2.2.1.span.was.cells, .obj true z21 z22 (.dat (q2 z38α.2.2.2.2.1)) z38.2.2.2.2.2.1, .obj true z16 z17 (.dat (q1 z50α.2)) z57.2, .vec z39α (q0) z42.2.span.was.cells, .vec z44α (q0) z48.2.span.was.cells, .vec z50α.1 (q0) z53.2.span.was.cells, .vec z50α.2 (q0) z57.2.span.was.cells, .gone, .gone]) [2, 3, 4, 5, 6, 7, 8, 9, 10, 11, 12, 13, 0, 1] rfl rfl) ?_
      refine den_drawA (A := (Value × Value)) (H' := fun z59α => [.gone, .obj true z33 z34 (.dat (q2 z59α.1)) z63.2, .obj true z11 z12 (.dat (q2 z44α)) z48.2, .obj true z27 z28 (.dat (q1 z50α.1)) z53.2, .obj true z6 z7 (.dat (q1 z39α)) z42.2, .gone, .obj true z21 z22 (.dat (q2 z59α.2)) z68.2, .obj true z16 z17 (.dat (q1 z50α.2)) z57.2, .vec z39α (q0) z42.2.span.was.cells, .vec z44α (q0) z48.2.span.was.cells, .vec z50α.1 (q0) z53.2.span.was.cells, .vec z50α.2 (q0) z57.2.span.was.cells, .vec (z59α.1) (q0) z63.2.span.was.cells, .vec (z59α.2) (q0) z68.2.span.was.cells]) (fun z59α => [(169, ⟨Rep.addr, (z33, z34), true⟩), (170, ⟨(T_law16_Step_rep).slice, z3, true⟩), (171, ⟨Rep.int .i64, z38.1, true⟩), (172, ⟨(T_law16_Step_rep).ptrTo, z60, true⟩), (173, ⟨(Rep.int .i64).ptrTo, z60.At, true⟩), (174, ⟨Rep.int .i64, z60.At, true⟩), (175, ⟨(T_law16_Step_rep).slice, z3, true⟩), (176, ⟨Rep.int .i64, z38.1, true⟩), (177, ⟨(T_law16_Step_rep).ptrTo, z61, true⟩), (178, ⟨(Rep.bool).ptrTo, z61.F, true⟩), (179, ⟨Rep.bool, z61.F, true⟩), (180, ⟨(T_law16_Step_rep).slice, z3, true⟩), (181, ⟨Rep.int .i64, z38.1, true⟩), (182, ⟨(T_law16_Step_rep).ptrTo, z62, true⟩), (183, ⟨(Rep.bool).ptrTo, z62.G, true⟩), (184, ⟨Rep.bool, z62.G, true⟩), (185, ⟨Rep.bool, z63.1, true⟩), (186, ⟨Rep.addr, (z21, z22), true⟩), (187, ⟨(T_law16_Step_rep).slice, z3, true⟩), (188, ⟨Rep.int .i64, z38.1, true⟩), (189, ⟨(T_law16_Step_rep).ptrTo, z65, true⟩), (190, ⟨(Rep.int .i64).ptrTo, z65.At, true⟩), (191, ⟨Rep.int .i64, z65.At, true⟩), (192, ⟨(T_law16_Step_rep).slice, z3, true⟩), (193, ⟨Rep.int .i64, z38.1, true⟩), (194, ⟨(T_law16_Step_rep).ptrTo, z66, true⟩), (195, ⟨(Rep.bool).ptrTo, z66.F, true⟩), (196, ⟨Rep.bool, z66.F, true⟩), (197, ⟨(T_law16_Step_rep).slice, z3, true⟩), (198, ⟨Rep.int .i64, z38.1, true⟩), (199, ⟨(T_law16_Step_rep).ptrTo, z67, true⟩), (200, ⟨(Rep.bool).ptrTo, z67.G, true⟩), (201, ⟨Rep.bool, z67.G, true⟩), (202, ⟨Rep.bool, z68.1, true⟩), (19, ⟨Rep.bool, z63.1, true⟩), (20, ⟨Rep.bool, z68.1, true⟩)]) (fun z59α S => [(cond (S 16) (.gone) (.vec z38α.1 (q0) z38.2.1.span.was.cells)), (cond (S 16) (.obj true z33 z34 (.dat (q2 z59α.1)) z63.2) (.obj true z33 z34 (.dat (q2 z38α.1)) z38.2.1)), .obj true z11 z12 (.dat (q2 z44α)) z48.2, .obj true z27 z28 (.dat (q1 z50α.1)) z53.2, .obj true z6 z7 (.dat (q1 z39α)) z42.2, (cond (S 33) (.gone) (.vec z38α.2.2.2.2.1 (q0) z38.2.2.2.2.2.1.span.was.cells)), (cond (S 33) (.obj true z21 z22 (.dat (q2 z59α.2)) z68.2) (.obj true z21 z22 (.dat (q2 z38α.2.2.2.2.1)) z38.2.2.2.2.2.1)), .obj true z16 z17 (.dat (q1 z50α.2)) z57.2, .vec z39α (q0) z42.2.span.was.cells, .vec z44α (q0) z48.2.span.was.cells, .vec z50α.1 (q0) z53.2.span.was.cells, .vec z50α.2 (q0) z57.2.span.was.cells, (cond (S 16) (.vec (z59α.1) (q0) z63.2.span.was.cells) (.gone)), (cond (S 33) (.vec (z59α.2) (q0) z68.2.span.was.cells) (.gone))]) ((Value.slice none 0 0), (Value.slice none 0 0)) mixed (fun _ => rfl) rfl rfl (fun z59α S hS => hB z59α S true true (hS 16 (by decide)) (hS 33 (by decide))) ⟨?_, ?_, ?_, ?_, ?_, ?_, ?_, ?_, ?_, ?_, ?_, ?_, ?_, ?_, ?_, ?_, ?_, ?_, ?_, ?_, ?_, ?_, ?_, ?_, ?_, ?_, ?_, ?_, ?_, ?_, ?_, ?_, ?_, ?_, ?_, ?_, trivial⟩ (fun z59α => ?_)
      ·intro z59α S hc hk hp
       have e16 : S 16 = false := (not_yet (j := 16) (q := 0) hc hk rfl rfl rfl rfl)
       have e33 : S 33 = false := (not_yet (j := 33) (q := 4) hc (not_yet (j := 16) (q := 0) hc hk rfl rfl rfl rfl) rfl rfl rfl rfl)
       refine eq_H (H' := [.vec z38α.1 (q0) z38.2.1.span.was.cells, .obj true z33 z34 (.dat (q2 z38α.1)) z38.2.1, .obj true z11 z12 (.dat (q2 z44α)) z48.2, .obj true z27 z28 (.dat (q1 z50α.1)) z53.2, .obj true z6 z7 (.dat (q1 z39α)) z42.2, .vec z38α.2.2.2.2.1 (q0) z38.2.2.2.2.2.1.span.was.cells, .obj true z21 z22 (.dat (q2 z38α.2.2.2.2.1)) z38.2.2.2.2.2.1, .obj true z16 z17 (.dat (q1 z50α.2)) z57.2, .vec z39α (q0) z42.2.span.was.cells, .vec z44α (q0) z48.2.span.was.cells, .vec z50α.1 (q0) z53.2.span.was.cells, .vec z50α.2 (q0) z57.2.span.was.cells, .gone, .gone]) (by first | exact hB z59α S false false e16 e33 | (have q := hB z59α S false false e16 e33; simp only [cond_true, cond_false] at q; exact q)) ?_
       refine o_move rfl rfl guard_none (look_o rfl rfl) (fun _ => rfl) ?_
       apply h_endA (α := z59α) (z59α.1, z59α.2)
       ·exact (by (iterate 36 apply EqOn.same); exact .nil)
       ·exact rfl
       ·exact rfl
       ·exact rfl
       ·exact hB (z59α.1, z59α.2) (fun k => S k || Nat.beq k 0) false false (or_f e16 rfl) (or_f e33 rfl)
      ·intro z59α S hc hk hp
       have e16 : S 16 = false := (not_yet (j := 16) (q := 1) hc (not_yet (j := 5) (q := 0) hc (not_yet (j := 4) (q := 0) hc (not_yet (j := 3) (q := 0) hc hk rfl rfl rfl rfl) rfl rfl rfl rfl) rfl rfl rfl rfl) rfl rfl rfl rfl)
       have e33 : S 33 = false := (not_yet (j := 33) (q := 4) hc (not_yet (j := 16) (q := 1) hc (not_yet (j := 5) (q := 0) hc (not_yet (j := 4) (q := 0) hc (not_yet (j := 3) (q := 0) hc hk rfl rfl rfl rfl) rfl rfl rfl rfl) rfl rfl rfl rfl) rfl rfl rfl rfl) rfl rfl rfl rfl)
       refine eq_H (H' := [.vec z38α.1 (q0) z38.2.1.span.was.cells, .obj true z33 z34 (.dat (q2 z38α.1)) z38.2.1, .obj true z11 z12 (.dat (q2 z44α)) z48.2, .obj true z27 z28 (.dat (q1 z50α.1)) z53.2, .obj true z6 z7 (.dat (q1 z39α)) z42.2, .vec z38α.2.2.2.2.1 (q0) z38.2.2.2.2.2.1.span.was.cells, .obj true z21 z22 (.dat (q2 z38α.2.2.2.2.1)) z38.2.2.2.2.2.1, .obj true z16 z17 (.dat (q1 z50α.2)) z57.2, .vec z39α (q0) z42.2.span.was.cells, .vec z44α (q0) z48.2.span.was.cells, .vec z50α.1 (q0) z53.2.span.was.cells, .vec z50α.2 (q0) z57.2.span.was.cells, .gone, .gone]) (by first | exact hB z59α S false false e16 e33 | (have q := hB z59α S false false e16 e33; simp only [cond_true, cond_false] at q; exact q)) ?_
       refine o_move rfl rfl guard_none (look_o rfl rfl) (fun _ => rfl) ?_
       apply h_endA (α := z59α) (z59α.1, z59α.2)
       ·exact (by (iterate 36 apply EqOn.same); exact .nil)
       ·exact rfl
       ·exact rfl
       ·exact rfl
       ·exact hB (z59α.1, z59α.2) (fun k => S k || Nat.beq k 1) false false (or_f e16 rfl) (or_f e33 rfl)
      ·intro z59α S hc hk hp
       have e16 : S 16 = false := (not_yet (j := 16) (q := 1) hc (not_yet (j := 5) (q := 0) hc (not_yet (j := 4) (q := 0) hc (not_yet (j := 3) (q := 1) hc hk rfl rfl rfl rfl) rfl rfl rfl rfl) rfl rfl rfl rfl) rfl rfl rfl rfl)
       have e33 : S 33 = false := (not_yet (j := 33) (q := 4) hc (not_yet (j := 16) (q := 1) hc (not_yet (j := 5) (q := 0) hc (not_yet (j := 4) (q := 0) hc (not_yet (j := 3) (q := 1) hc hk rfl rfl rfl rfl) rfl rfl rfl rfl) rfl rfl rfl rfl) rfl rfl rfl rfl) rfl rfl rfl rfl)
       refine eq_H (H' := [.vec z38α.1 (q0) z38.2.1.span.was.cells, .obj true z33 z34 (.dat (q2 z38α.1)) z38.2.1, .obj true z11 z12 (.dat (q2 z44α)) z48.2, .obj true z27 z28 (.dat (q1 z50α.1)) z53.2, .obj true z6 z7 (.dat (q1 z39α)) z42.2, .vec z38α.2.2.2.2.1 (q0) z38.2.2.2.2.2.1.span.was.cells, .obj true z21 z22 (.dat (q2 z38α.2.2.2.2.1)) z38.2.2.2.2.2.1, .obj true z16 z17 (.dat (q1 z50α.2)) z57.2, .vec z39α (q0) z42.2.span.was.cells, .vec z44α (q0) z48.2.span.was.cells, .vec z50α.1 (q0) z53.2.span.was.cells, .vec z50α.2 (q0) z57.2.span.was.cells, .gone, .gone]) (by first | exact hB z59α S false false e16 e33 | (have q := hB z59α S false false e16 e33; simp only [cond_true, cond_false] at q; exact q)) ?_
       refine o_move rfl rfl guard_none (look_o rfl rfl) (fun _ => rfl) ?_
       apply h_endA (α := z59α) (z59α.1, z59α.2)
       ·exact (by (iterate 36 apply EqOn.same); exact .nil)
       ·exact rfl
       ·exact rfl
       ·exact rfl
       ·exact hB (z59α.1, z59α.2) (fun k => S k || Nat.beq k 2) false false (or_f e16 rfl) (or_f e33 rfl)
      ·intro z59α S hc hk hp
       have e16 : S 16 = false := (not_yet (j := 16) (q := 1) hc (not_yet (j := 5) (q := 0) hc (not_yet (j := 4) (q := 0) hc hk rfl rfl rfl rfl) rfl rfl rfl rfl) rfl rfl rfl rfl)
       have e33 : S 33 = false := (not_yet (j := 33) (q := 4) hc (not_yet (j := 16) (q := 1) hc (not_yet (j := 5) (q := 0) hc (not_yet (j := 4) (q := 0) hc hk rfl rfl rfl rfl) rfl rfl rfl rfl) rfl rfl rfl rfl) rfl rfl rfl rfl)
       refine eq_H (H' := [.vec z38α.1 (q0) z38.2.1.span.was.cells, .obj true z33 z34 (.dat (q2 z38α.1)) z38.2.1, .obj true z11 z12 (.dat (q2 z44α)) z48.2, .obj true z27 z28 (.dat (q1 z50α.1)) z53.2, .obj true z6 z7 (.dat (q1 z39α)) z42.2, .vec z38α.2.2.2.2.1 (q0) z38.2.2.2.2.2.1.span.was.cells, .obj true z21 z22 (.dat (q2 z38α.2.2.2.2.1)) z38.2.2.2.2.2.1, .obj true z16 z17 (.dat (q1 z50α.2)) z57.2, .vec z39α (q0) z42.2.span.was.cells, .vec z44α (q0) z48.2.span.was.cells, .vec z50α.1 (q0) z53.2.span.was.cells, .vec z50α.2 (q0) z57.2.span.was.cells, .gone, .gone]) (by first | exact hB z59α S false false e16 e33 | (have q := hB z59α S false false e16 e33; simp only [cond_true, cond_false] at q; exact q)) ?_
       refine o_from (bind_eqO h_z60) ?_
       refine o_iaddr Try.underlying55 type67 rfl rfl (look_d rfl rfl (pr hp 0 rfl rfl)) (look_d rfl rfl (pr hp 1 rfl rfl)) rfl rfl (o_eqO ?_)
       apply h_endA (α := z59α) (z59α.1, z59α.2)
       ·exact (by (iterate 36 apply EqOn.same); exact .nil)
       ·exact rfl
       ·exact rfl
       ·exact rfl
       ·exact hB (z59α.1, z59α.2) (fun k => S k || Nat.beq k 3) false false (or_f e16 rfl) (or_f e33 rfl)
      ·intro z59α S hc hk hp
       have e16 : S 16 = false := (not_yet (j := 16) (q := 1) hc (not_yet (j := 5) (q := 0) hc hk rfl rfl rfl rfl) rfl rfl rfl rfl)
       have e33 : S 33 = false := (not_yet (j := 33) (q := 4) hc (not_yet (j := 16) (q := 1) hc (not_yet (j := 5) (q := 0) hc hk rfl rfl rfl rfl) rfl rfl rfl rfl) rfl rfl rfl rfl)
       refine eq_H (H' := [.vec z38α.1 (q0) z38.2.1.span.was.cells, .obj true z33 z34 (.dat (q2 z38α.1)) z38.2.1, .obj true z11 z12 (.dat (q2 z44α)) z48.2, .obj true z27 z28 (.dat (q1 z50α.1)) z53.2, .obj true z6 z7 (.dat (q1 z39α)) z42.2, .vec z38α.2.2.2.2.1 (q0) z38.2.2.2.2.2.1.span.was.cells, .obj true z21 z22 (.dat (q2 z38α.2.2.2.2.1)) z38.2.2.2.2.2.1, .obj true z16 z17 (.dat (q1 z50α.2)) z57.2, .vec z39α (q0) z42.2.span.was.cells, .vec z44α (q0) z48.2.span.was.cells, .vec z50α.1 (q0) z53.2.span.was.cells, .vec z50α.2 (q0) z57.2.span.was.cells, .gone, .gone]) (by first | exact hB z59α S false false e16 e33 | (have q := hB z59α S false false e16 e33; simp only [cond_true, cond_false] at q; exact q)) ?_
       refine o_fptr field67_0 type2 (by decide) T_law16_Step_foc0 rfl rfl guard_none (look_d rfl rfl (pr hp 0 rfl rfl)) (fun _ => rfl) ?_
       apply h_endA (α := z59α) (z59α.1, z59α.2)
       ·exact (by (iterate 36 apply EqOn.same); exact .nil)
       ·exact rfl
       ·exact rfl
       ·exact rfl
       ·exact hB (z59α.1, z59α.2) (fun k => S k || Nat.beq k 4) false false (or_f e16 rfl) (or_f e33 rfl)
      ·intro z59α S hc hk hp
       have e16 : S 16 = false := (not_yet (j := 16) (q := 1) hc hk rfl rfl rfl rfl)
       have e33 : S 33 = false := (not_yet (j := 33) (q := 4) hc (not_yet (j := 16) (q := 1) hc hk rfl rfl rfl rfl) rfl rfl rfl rfl)
       refine eq_H (H' := [.vec z38α.1 (q0) z38.2.1.span.was.cells, .obj true z33 z34 (.dat (q2 z38α.1)) z38.2.1, .obj true z11 z12 (.dat (q2 z44α)) z48.2, .obj true z27 z28 (.dat (q1 z50α.1)) z53.2, .obj true z6 z7 (.dat (q1 z39α)) z42.2, .vec z38α.2.2.2.2.1 (q0) z38.2.2.2.2.2.1.span.was.cells, .obj true z21 z22 (.dat (q2 z38α.2.2.2.2.1)) z38.2.2.2.2.2.1, .obj true z16 z17 (.dat (q1 z50α.2)) z57.2, .vec z39α (q0) z42.2.span.was.cells, .vec z44α (q0) z48.2.span.was.cells, .vec z50α.1 (q0) z53.2.span.was.cells, .vec z50α.2 (q0) z57.2.span.was.cells, .gone, .gone]) (by first | exact hB z59α S false false e16 e33 | (have q := hB z59α S false false e16 e33; simp only [cond_true, cond_false] at q; exact q)) ?_
       refine o_load type2 rfl rfl guard_none (look_d rfl rfl (pr hp 0 rfl rfl)) (fun _ => rfl) ?_
       apply h_endA (α := z59α) (z59α.1, z59α.2)
       ·exact (by (iterate 36 apply EqOn.same); exact .nil)
       ·exact rfl
       ·exact rfl
       ·exact rfl
       ·exact hB (z59α.1, z59α.2) (fun k => S k || Nat.beq k 5) false false (or_f e16 rfl) (or_f e33 rfl)
      ·intro z59α S hc hk hp
       have e16 : S 16 = false := (not_yet (j := 16) (q := 2) hc (not_yet (j := 10) (q := 0) hc (not_yet (j := 9) (q := 0) hc (not_yet (j := 8) (q := 0) hc hk rfl rfl rfl rfl) rfl rfl rfl rfl) rfl rfl rfl rfl) rfl rfl rfl rfl)
       have e33 : S 33 = false := (not_yet (j := 33) (q := 4) hc (not_yet (j := 16) (q := 2) hc (not_yet (j := 10) (q := 0) hc (not_yet (j := 9) (q := 0) hc (not_yet (j := 8) (q := 0) hc hk rfl rfl rfl rfl) rfl rfl rfl rfl) rfl rfl rfl rfl) rfl rfl rfl rfl) rfl rfl rfl rfl)
       refine eq_H (H' := [.vec z38α.1 (q0) z38.2.1.span.was.cells, .obj true z33 z34 (.dat (q2 z38α.1)) z38.2.1, .obj true z11 z12 (.dat (q2 z44α)) z48.2, .obj true z27 z28 (.dat (q1 z50α.1)) z53.2, .obj true z6 z7 (.dat (q1 z39α)) z42.2, .vec z38α.2.2.2.2.1 (q0) z38.2.2.2.2.2.1.span.was.cells, .obj true z21 z22 (.dat (q2 z38α.2.2.2.2.1)) z38.2.2.2.2.2.1, .obj true z16 z17 (.dat (q1 z50α.2)) z57.2, .vec z39α (q0) z42.2.span.was.cells, .vec z44α (q0) z48.2.span.was.cells, .vec z50α.1 (q0) z53.2.span.was.cells, .vec z50α.2 (q0) z57.2.span.was.cells, .gone, .gone]) (by first | exact hB z59α S false false e16 e33 | (have q := hB z59α S false false e16 e33; simp only [cond_true, cond_false] at q; exact q)) ?_
       refine o_move rfl rfl guard_none (look_o rfl rfl) (fun _ => rfl) ?_
       apply h_endA (α := z59α) (z59α.1, z59α.2)
       ·exact (by (iterate 36 apply EqOn.same); exact .nil)
       ·exact rfl
       ·exact rfl
       ·exact rfl
       ·exact hB (z59α.1, z59α.2) (fun k => S k || Nat.beq k 6) false false (or_f e16 rfl) (or_f e33 rfl)
      ·intro z59α S hc hk hp
       have e16 : S 16 = false := (not_yet (j := 16) (q := 2) hc (not_yet (j := 10) (q := 0) hc (not_yet (j := 9) (q := 0) hc (not_yet (j := 8) (q := 1) hc hk rfl rfl rfl rfl) rfl rfl rfl rfl) rfl rfl rfl rfl) rfl rfl rfl rfl)
       have e33 : S 33 = false := (not_yet (j := 33) (q := 4) hc (not_yet (j := 16) (q := 2) hc (not_yet (j := 10) (q := 0) hc (not_yet (j := 9) (q := 0) hc (not_yet (j := 8) (q := 1) hc hk rfl rfl rfl rfl) rfl rfl rfl rfl) rfl rfl rfl rfl) rfl rfl rfl rfl) rfl rfl rfl rfl)
       refine eq_H (H' := [.vec z38α.1 (q0) z38.2.1.span.was.cells, .obj true z33 z34 (.dat (q2 z38α.1)) z38.2.1, .obj true z11 z12 (.dat (q2 z44α)) z48.2, .obj true z27 z28 (.dat (q1 z50α.1)) z53.2, .obj true z6 z7 (.dat (q1 z39α)) z42.2, .vec z38α.2.2.2.2.1 (q0) z38.2.2.2.2.2.1.span.was.cells, .obj true z21 z22 (.dat (q2 z38α.2.2.2.2.1)) z38.2.2.2.2.2.1, .obj true z16 z17 (.dat (q1 z50α.2)) z57.2, .vec z39α (q0) z42.2.span.was.cells, .vec z44α (q0) z48.2.span.was.cells, .vec z50α.1 (q0) z53.2.span.was.cells, .vec z50α.2 (q0) z57.2.span.was.cells, .gone, .gone]) (by first | exact hB z59α S false false e16 e33 | (have q := hB z59α S false false e16 e33; simp only [cond_true, cond_false] at q; exact q)) ?_
       refine o_move rfl rfl guard_none (look_o rfl rfl) (fun _ => rfl) ?_
       apply h_endA (α := z59α) (z59α.1, z59α.2)
       ·exact (by (iterate 36 apply EqOn.same); exact .nil)
       ·exact rfl
       ·exact rfl
       ·exact rfl
       ·exact hB (z59α.1, z59α.2) (fun k => S k || Nat.beq k 7) false false (or_f e16 rfl) (or_f e33 rfl)
      ·intro z59α S hc hk hp
       have e16 : S 16 = false := (not_yet (j := 16) (q := 2) hc (not_yet (j := 10) (q := 0) hc (not_yet (j := 9) (q := 0) hc hk rfl rfl rfl rfl) rfl rfl rfl rfl) rfl rfl rfl rfl)
       have e33 : S 33 = false := (not_yet (j := 33) (q := 4) hc (not_yet (j := 16) (q := 2) hc (not_yet (j := 10) (q := 0) hc (not_yet (j := 9) (q := 0) hc hk rfl rfl rfl rfl) rfl rfl rfl rfl) rfl rfl rfl rfl) rfl rfl rfl rfl)
       refine eq_H (H' := [.vec z38α.1 (q0) z38.2.1.span.was.cells, .obj true z33 z34 (.dat (q2 z38α.1)) z38.2.1, .obj true z11 z12 (.dat (q2 z44α)) z48.2, .obj true z27 z28 (.dat (q1 z50α.1)) z53.2, .obj true z6 z7 (.dat (q1 z39α)) z42.2, .vec z38α.2.2.2.2.1 (q0) z38.2.2.2.2.2.1.span.was.cells, .obj true z21 z22 (.dat (q2 z38α.2.2.2.2.1)) z38.2.2.2.2.2.1, .obj true z16 z17 (.dat (q1 z50α.2)) z57.2, .vec z39α (q0) z42.2.span.was.cells, .vec z44α (q0) z48.2.span.was.cells, .vec z50α.1 (q0) z53.2.span.was.cells, .vec z50α.2 (q0) z57.2.span.was.cells, .gone, .gone]) (by first | exact hB z59α S false false e16 e33 | (have q := hB z59α S false false e16 e33; simp only [cond_true, cond_false] at q; exact q)) ?_
       refine o_from (bind_eqO h_z61) ?_
       refine o_iaddr Try.underlying55 type67 rfl rfl (look_d rfl rfl (pr hp 0 rfl rfl)) (look_d rfl rfl (pr hp 1 rfl rfl)) rfl rfl (o_eqO ?_)
       apply h_endA (α := z59α) (z59α.1, z59α.2)
       ·exact (by (iterate 36 apply EqOn.same); exact .nil)
       ·exact rfl
       ·exact rfl
       ·exact rfl
       ·exact hB (z59α.1, z59α.2) (fun k => S k || Nat.beq k 8) false false (or_f e16 rfl) (or_f e33 rfl)
      ·intro z59α S hc hk hp
       have e16 : S 16 = false := (not_yet (j := 16) (q := 2) hc (not_yet (j := 10) (q := 0) hc hk rfl rfl rfl rfl) rfl rfl rfl rfl)
       have e33 : S 33 = false := (not_yet (j := 33) (q := 4) hc (not_yet (j := 16) (q := 2) hc (not_yet (j := 10) (q := 0) hc hk rfl rfl rfl rfl) rfl rfl rfl rfl) rfl rfl rfl rfl)
       refine eq_H (H' := [.vec z38α.1 (q0) z38.2.1.span.was.cells, .obj true z33 z34 (.dat (q2 z38α.1)) z38.2.1, .obj true z11 z12 (.dat (q2 z44α)) z48.2, .obj true z27 z28 (.dat (q1 z50α.1)) z53.2, .obj true z6 z7 (.dat (q1 z39α)) z42.2, .vec z38α.2.2.2.2.1 (q0) z38.2.2.2.2.2.1.span.was.cells, .obj true z21 z22 (.dat (q2 z38α.2.2.2.2.1)) z38.2.2.2.2.2.1, .obj true z16 z17 (.dat (q1 z50α.2)) z57.2, .vec z39α (q0) z42.2.span.was.cells, .vec z44α (q0) z48.2.span.was.cells, .vec z50α.1 (q0) z53.2.span.was.cells, .vec z50α.2 (q0) z57.2.span.was.cells, .gone, .gone]) (by first | exact hB z59α S false false e16 e33 | (have q := hB z59α S false false e16 e33; simp only [cond_true, cond_false] at q; exact q)) ?_
       refine o_fptr field67_1 type4 (by decide) T_law16_Step_foc1 rfl rfl guard_none (look_d rfl rfl (pr hp 0 rfl rfl)) (fun _ => rfl) ?_
       apply h_endA (α := z59α) (z59α.1, z59α.2)
       ·exact (by (iterate 36 apply EqOn.same); exact .nil)
       ·exact rfl
       ·exact rfl
       ·exact rfl
       ·exact hB (z59α.1, z59α.2) (fun k => S k || Nat.beq k 9) false false (or_f e16 rfl) (or_f e33 rfl)
      ·intro z59α S hc hk hp
       have e16 : S 16 = false := (not_yet (j := 16) (q := 2) hc hk rfl rfl rfl rfl)
       have e33 : S 33 = false := (not_yet (j := 33) (q := 4) hc (not_yet (j := 16) (q := 2) hc hk rfl rfl rfl rfl) rfl rfl rfl rfl)
       refine eq_H (H' := [.vec z38α.1 (q0) z38.2.1.span.was.cells, .obj true z33 z34 (.dat (q2 z38α.1)) z38.2.1, .obj true z11 z12 (.dat (q2 z44α)) z48.2, .obj true z27 z28 (.dat (q1 z50α.1)) z53.2, .obj true z6 z7 (.dat (q1 z39α)) z42.2, .vec z38α.2.2.2.2.1 (q0) z38.2.2.2.2.2.1.span.was.cells, .obj true z21 z22 (.dat (q2 z38α.2.2.2.2.1)) z38.2.2.2.2.2.1, .obj true z16 z17 (.dat (q1 z50α.2)) z57.2, .vec z39α (q0) z42.2.span.was.cells, .vec z44α (q0) z48.2.span.was.cells, .vec z50α.1 (q0) z53.2.span.was.cells, .vec z50α.2 (q0) z57.2.span.was.cells, .gone, .gone]) (by first | exact hB z59α S false false e16 e33 | (have q := hB z59α S false false e16 e33; simp only [cond_true, cond_false] at q; exact q)) ?_
       refine o_load type4 rfl rfl guard_none (look_d rfl rfl (pr hp 0 rfl rfl)) (fun _ => rfl) ?_
       apply h_endA (α := z59α) (z59α.1, z59α.2)
       ·exact (by (iterate 36 apply EqOn.same); exact .nil)
       ·exact rfl
       ·exact rfl
       ·exact rfl
       ·exact hB (z59α.1, z59α.2) (fun k => S k || Nat.beq k 10) false false (or_f e16 rfl) (or_f e33 rfl)
      ·intro z59α S hc hk hp
       have e16 : S 16 = false := (not_yet (j := 16) (q := 3) hc (not_yet (j := 15) (q := 0) hc (not_yet (j := 14) (q := 0) hc (not_yet (j := 13) (q := 0) hc hk rfl rfl rfl rfl) rfl rfl rfl rfl) rfl rfl rfl rfl) rfl rfl rfl rfl)
       have e33 : S 33 = false := (not_yet (j := 33) (q := 4) hc (not_yet (j := 16) (q := 3) hc (not_yet (j := 15) (q := 0) hc (not_yet (j := 14) (q := 0) hc (not_yet (j := 13) (q := 0) hc hk rfl rfl rfl rfl) rfl rfl rfl rfl) rfl rfl rfl rfl) rfl rfl rfl rfl) rfl rfl rfl rfl)
       refine eq_H (H' := [.vec z38α.1 (q0) z38.2.1.span.was.cells, .obj true z33 z34 (.dat (q2 z38α.1)) z38.2.1, .obj true z11 z12 (.dat (q2 z44α)) z48.2, .obj true z27 z28 (.dat (q1 z50α.1)) z53.2, .obj true z6 z7 (.dat (q1 z39α)) z42.2, .vec z38α.2.2.2.2.1 (q0) z38.2.2.2.2.2.1.span.was.cells, .obj true z21 z22 (.dat (q2 z38α.2.2.2.2.1)) z38.2.2.2.2.2.1, .obj true z16 z17 (.dat (q1 z50α.2)) z57.2, .vec z39α (q0) z42.2.span.was.cells, .vec z44α (q0) z48.2.span.was.cells, .vec z50α.1 (q0) z53.2.span.was.cells, .vec z50α.2 (q0) z57.2.span.was.cells, .gone, .gone]) (by first | exact hB z59α S false false e16 e33 | (have q := hB z59α S false false e16 e33; simp only [cond_true, cond_false] at q; exact q)) ?_
       refine o_move rfl rfl guard_none (look_o rfl rfl) (fun _ => rfl) ?_
       apply h_endA (α := z59α) (z59α.1, z59α.2)
       ·exact (by (iterate 36 apply EqOn.same); exact .nil)
       ·exact rfl
       ·exact rfl
       ·exact rfl
       ·exact hB (z59α.1, z59α.2) (fun k => S k || Nat.beq k 11) false false (or_f e16 rfl) (or_f e33 rfl)
      ·intro z59α S hc hk hp
       have e16 : S 16 = false := (not_yet (j := 16) (q := 3) hc (not_yet (j := 15) (q := 0) hc (not_yet (j := 14) (q := 0) hc (not_yet (j := 13) (q := 1) hc hk rfl rfl rfl rfl) rfl rfl rfl rfl) rfl rfl rfl rfl) rfl rfl rfl rfl)
       have e33 : S 33 = false := (not_yet (j := 33) (q := 4) hc (not_yet (j := 16) (q := 3) hc (not_yet (j := 15) (q := 0) hc (not_yet (j := 14) (q := 0) hc (not_yet (j := 13) (q := 1) hc hk rfl rfl rfl rfl) rfl rfl rfl rfl) rfl rfl rfl rfl) rfl rfl rfl rfl) rfl rfl rfl rfl)
       refine eq_H (H' := [.vec z38α.1 (q0) z38.2.1.span.was.cells, .obj true z33 z34 (.dat (q2 z38α.1)) z38.2.1, .obj true z11 z12 (.dat (q2 z44α)) z48.2, .obj true z27 z28 (.dat (q1 z50α.1)) z53.2, .obj true z6 z7 (.dat (q1 z39α)) z42.2, .vec z38α.2.2.2.2.1 (q0) z38.2.2.2.2.2.1.span.was.cells, .obj true z21 z22 (.dat (q2 z38α.2.2.2.2.1)) z38.2.2.2.2.2.1, .obj true z16 z17 (.dat (q1 z50α.2)) z57.2, .vec z39α (q0) z42.2.span.was.cells, .vec z44α (q0) z48.2.span.was.cells, .vec z50α.1 (q0) z53.2.span.was.cells, .vec z50α.2 (q0) z57.2.span.was.cells, .gone, .gone]) (by first | exact hB z59α S false false e16 e33 | (have q := hB z59α S false false e16 e33; simp only [cond_true, cond_false] at q; exact q)) ?_
       refine o_move rfl rfl guard_none (look_o rfl rfl) (fun _ => rfl) ?_
       apply h_endA (α := z59α) (z59α.1, z59α.2)
       ·exact (by (iterate 36 apply EqOn.same); exact .nil)
       ·exact rfl
       ·exact rfl
       ·exact rfl
       ·exact hB (z59α.1, z59α.2) (fun k => S k || Nat.beq k 12) false false (or_f e16 rfl) (or_f e33 rfl)
      ·intro z59α S hc hk hp
       have e16 : S 16 = false := (not_yet (j := 16) (q := 3) hc (not_yet (j := 15) (q := 0) hc (not_yet (j := 14) (q := 0) hc hk rfl rfl rfl rfl) rfl rfl rfl rfl) rfl rfl rfl rfl)
       have e33 : S 33 = false := (not_yet (j := 33) (q := 4) hc (not_yet (j := 16) (q := 3) hc (not_yet (j := 15) (q := 0) hc (not_yet (j := 14) (q := 0) hc hk rfl rfl rfl rfl) rfl rfl rfl rfl) rfl rfl rfl rfl) rfl rfl rfl rfl)
       refine eq_H (H' := [.vec z38α.1 (q0) z38.2.1.span.was.cells, .obj true z33 z34 (.dat (q2 z38α.1)) z38.2.1, .obj true z11 z12 (.dat (q2 z44α)) z48.2, .obj true z27 z28 (.dat (q1 z50α.1)) z53.2, .obj true z6 z7 (.dat (q1 z39α)) z42.2, .vec z38α.2.2.2.2.1 (q0) z38.2.2.2.2.2.1.span.was.cells, .obj true z21 z22 (.dat (q2 z38α.2.2.2.2.1)) z38.2.2.2.2.2.1, .obj true z16 z17 (.dat (q1 z50α.2)) z57.2, .vec z39α (q0) z42.2.span.was.cells, .vec z44α (q0) z48.2.span.was.cells, .vec z50α.1 (q0) z53.2.span.was.cells, .vec z50α.2 (q0) z57.2.span.was.cells, .gone, .gone]) (by first | exact hB z59α S false false e16 e33 | (have q := hB z59α S false false e16 e33; simp only [cond_true, cond_false] at q; exact q)) ?_
       refine o_from (bind_eqO h_z62) ?_
       refine o_iaddr Try.underlying55 type67 rfl rfl (look_d rfl rfl (pr hp 0 rfl rfl)) (look_d rfl rfl (pr hp 1 rfl rfl)) rfl rfl (o_eqO ?_)
       apply h_endA (α := z59α) (z59α.1, z59α.2)
       ·exact (by (iterate 36 apply EqOn.same); exact .nil)
       ·exact rfl
       ·exact rfl
       ·exact rfl
       ·exact hB (z59α.1, z59α.2) (fun k => S k || Nat.beq k 13) false false (or_f e16 rfl) (or_f e33 rfl)
      ·intro z59α S hc hk hp
       have e16 : S 16 = false := (not_yet (j := 16) (q := 3) hc (not_yet (j := 15) (q := 0) hc hk rfl rfl rfl rfl) rfl rfl rfl rfl)
       have e33 : S 33 = false := (not_yet (j := 33) (q := 4) hc (not_yet (j := 16) (q := 3) hc (not_yet (j := 15) (q := 0) hc hk rfl rfl rfl rfl) rfl rfl rfl rfl) rfl rfl rfl rfl)
       refine eq_H (H' := [.vec z38α.1 (q0) z38.2.1.span.was.cells, .obj true z33 z34 (.dat (q2 z38α.1)) z38.2.1, .obj true z11 z12 (.dat (q2 z44α)) z48.2, .obj true z27 z28 (.dat (q1 z50α.1)) z53.2, .obj true z6 z7 (.dat (q1 z39α)) z42.2, .vec z38α.2.2.2.2.1 (q0) z38.2.2.2.2.2.1.span.was.cells, .obj true z21 z22 (.dat (q2 z38α.2.2.2.2.1)) z38.2.2.2.2.2.1, .obj true z16 z17 (.dat (q1 z50α.2)) z57.2, .vec z39α (q0) z42.2.span.was.cells, .vec z44α (q0) z48.2.span.was.cells, .vec z50α.1 (q0) z53.2.span.was.cells, .vec z50α.2 (q0) z57.2.span.was.cells, .gone, .gone]) (by first | exact hB z59α S false false e16 e33 | (have q := hB z59α S false false e16 e33; simp only [cond_true, cond_false] at q; exact q)) ?_
       refine o_fptr field67_2 type4 (by decide) T_law16_Step_foc2 rfl rfl guard_none (look_d rfl rfl (pr hp 0 rfl rfl)) (fun _ => rfl) ?_
       apply h_endA (α := z59α) (z59α.1, z59α.2)
       ·exact (by (iterate 36 apply EqOn.same); exact .nil)
       ·exact rfl
       ·exact rfl
       ·exact rfl
       ·exact hB (z59α.1, z59α.2) (fun k => S k || Nat.beq k 14) false false (or_f e16 rfl) (or_f e33 rfl)
      ·intro z59α S hc hk hp
       have e16 : S 16 = false := (not_yet (j := 16) (q := 3) hc hk rfl rfl rfl rfl)
       have e33 : S 33 = false := (not_yet (j := 33) (q := 4) hc (not_yet (j := 16) (q := 3) hc hk rfl rfl rfl rfl) rfl rfl rfl rfl)
       refine eq_H (H' := [.vec z38α.1 (q0) z38.2.1.span.was.cells, .obj true z33 z34 (.dat (q2 z38α.1)) z38.2.1, .obj true z11 z12 (.dat (q2 z44α)) z48.2, .obj true z27 z28 (.dat (q1 z50α.1)) z53.2, .obj true z6 z7 (.dat (q1 z39α)) z42.2, .vec z38α.2.2.2.2.1 (q0) z38.2.2.2.2.2.1.span.was.cells, .obj true z21 z22 (.dat (q2 z38α.2.2.2.2.1)) z38.2.2.2.2.2.1, .obj true z16 z17 (.dat (q1 z50α.2)) z57.2, .vec z39α (q0) z42.2.span.was.cells, .vec z44α (q0) z48.2.span.was.cells, .vec z50α.1 (q0) z53.2.span.was.cells, .vec z50α.2 (q0) z57.2.span.was.cells, .gone, .gone]) (by first | exact hB z59α S false false e16 e33 | (have q := hB z59α S false false e16 e33; simp only [cond_true, cond_false] at q; exact q)) ?_
       refine o_load type4 rfl rfl guard_none (look_d rfl rfl (pr hp 0 rfl rfl)) (fun _ => rfl) ?_
       apply h_endA (α := z59α) (z59α.1, z59α.2)
       ·exact (by (iterate 36 apply EqOn.same); exact .nil)
       ·exact rfl
       ·exact rfl
       ·exact rfl
       ·exact hB (z59α.1, z59α.2) (fun k => S k || Nat.beq k 15) false false (or_f e16 rfl) (or_f e33 rfl)
      ·intro z59α S hc hk hp
       have e33 : S 33 = false := (not_yet (j := 33) (q := 4) hc hk rfl rfl rfl rfl)
       refine eq_H (H' := [.vec z38α.1 (q0) z38.2.1.span.was.cells, .obj true z33 z34 (.dat (q2 z38α.1)) z38.2.1, .obj true z11 z12 (.dat (q2 z44α)) z48.2, .obj true z27 z28 (.dat (q1 z50α.1)) z53.2, .obj true z6 z7 (.dat (q1 z39α)) z42.2, .vec z38α.2.2.2.2.1 (q0) z38.2.2.2.2.2.1.span.was.cells, .obj true z21 z22 (.dat (q2 z38α.2.2.2.2.1)) z38.2.2.2.2.2.1, .obj true z16 z17 (.dat (q1 z50α.2)) z57.2, .vec z39α (q0) z42.2.span.was.cells, .vec z44α (q0) z48.2.span.was.cells, .vec z50α.1 (q0) z53.2.span.was.cells, .vec z50α.2 (q0) z57.2.span.was.cells, .gone, .gone]) (by first | exact hB z59α S false false hk e33 | (have q := hB z59α S false false hk e33; simp only [cond_true, cond_false] at q; exact q)) ?_
       refine o_from (bind_eqO h_z63) ?_
       refine o_weak (H' := [.vec z38α.1 (q0) z38.2.1.span.was.cells, .obj true z33 z34 (.dat (q2 z38α.1)) z38.2.1] ++ ([] ++ [.obj true z11 z12 (.dat (q2 z44α)) z48.2, .obj true z27 z28 (.dat (q1 z50α.1)) z53.2, .obj true z6 z7 (.dat (q1 z39α)) z42.2, .vec z38α.2.2.2.2.1 (q0) z38.2.2.2.2.2.1.span.was.cells, .obj true z21 z22 (.dat (q2 z38α.2.2.2.2.1)) z38.2.2.2.2.2.1, .obj true z16 z17 (.dat (q1 z50α.2)) z57.2, .vec z39α (q0) z42.2.span.was.cells, .vec z44α (q0) z48.2.span.was.cells, .vec z50α.1 (q0) z53.2.span.was.cells, .vec z50α.2 (q0) z57.2.span.was.cells, .gone, .gone])) (sub_pick [0, 1, 2, 3, 4, 5, 6, 7, 8, 9, 10, 11, 12, 13] rfl rfl) ?_
       refine o_callU rfl rfl rfl rfl rfl callable37 (looks_cons (look_d rfl rfl (pr hp 0 rfl rfl)) (fun _ => rfl) (looks_cons (look_d rfl rfl (pr hp 1 rfl rfl)) (fun _ => rfl) (looks_cons (look_d rfl rfl (pr hp 2 rfl rfl)) (fun _ => rfl) (looks_cons (look_d rfl rfl (pr hp 3 rfl rfl)) (fun _ => rfl) (looks_nil))))) .nil (window_Since_Step_ok _ _ _ z38.2.1 z60.At z61.F z62.G) (fun _ _ => (wr_v (wr_c wr_n))) (fun z64α => o_eqOH ?_)
       refine o_weak (H' := [.vec z64α (q0) z63.2.span.was.cells, .obj true z33 z34 (.dat (q2 z64α)) z63.2, .obj true z11 z12 (.dat (q2 z44α)) z48.2, .obj true z27 z28 (.dat (q1 z50α.1)) z53.2, .obj true z6 z7 (.dat (q1 z39α)) z42.2, .vec z38α.2.2.2.2.1 (q0) z38.2.2.2.2.2.1.span.was.cells, .obj true z21 z22 (.dat (q2 z38α.2.2.2.2.1)) z38.2.2.2.2.2.1, .obj true z16 z17 (.dat (q1 z50α.2)) z57.2, .vec z39α (q0) z42.2.span.was.cells, .vec z44α (q0) z48.2.span.was.cells, .vec z50α.1 (q0) z53.2.span.was.cells, .vec z50α.2 (q0) z57.2.span.was.cells, .gone, .gone]) (sub_pick [0, 1, 2, 3, 4, 5, 6, 7, 8, 9, 10, 11, 12, 13] rfl rfl) ?_
       refine o_weak sub_gone ?_
       refine o_weak (H' := [.gone, .obj true z33 z34 (.dat (q2 z64α)) z63.2, .obj true z11 z12 (.dat (q2 z44α)) z48.2, .obj true z27 z28 (.dat (q1 z50α.1)) z53.2, .obj true z6 z7 (.dat (q1 z39α)) z42.2, .vec z38α.2.2.2.2.1 (q0) z38.2.2.2.2.2.1.span.was.cells, .obj true z21 z22 (.dat (q2 z38α.2.2.2.2.1)) z38.2.2.2.2.2.1, .obj true z16 z17 (.dat (q1 z50α.2)) z57.2, .vec z39α (q0) z42.2.span.was.cells, .vec z44α (q0) z48.2.span.was.cells, .vec z50α.1 (q0) z53.2.span.was.cells, .vec z50α.2 (q0) z57.2.span.was.cells, .vec z64α (q0) z63.2.span.was.cells, .gone]) (sub_pick [0, 2, 3, 4, 5, 6, 7, 8, 9, 10, 11, 12, 1, 14] rfl rfl) ?_
       apply h_endA (α := z59α) (z64α, z59α.2)
       ·exact (by (iterate 36 apply EqOn.same); exact .nil)
       ·exact rfl
       ·exact rfl
       ·exact rfl
       ·exact hB (z64α, z59α.2) (fun k => S k || Nat.beq k 16) true false (or_i rfl) (or_f e33 rfl)
      ·intro z59α S hc hk hp
       have e33 : S 33 = false := (not_yet (j := 33) (q := 0) hc hk rfl rfl rfl rfl)
       refine eq_H (H' := [(cond (S 16) (.gone) (.vec z38α.1 (q0) z38.2.1.span.was.cells)), (cond (S 16) (.obj true z33 z34 (.dat (q2 z59α.1)) z63.2) (.obj true z33 z34 (.dat (q2 z38α.1)) z38.2.1)), .obj true z11 z12 (.dat (q2 z44α)) z48.2, .obj true z27 z28 (.dat (q1 z50α.1)) z53.2, .obj true z6 z7 (.dat (q1 z39α)) z42.2, .vec z38α.2.2.2.2.1 (q0) z38.2.2.2.2.2.1.span.was.cells, .obj true z21 z22 (.dat (q2 z38α.2.2.2.2.1)) z38.2.2.2.2.2.1, .obj true z16 z17 (.dat (q1 z50α.2)) z57.2, .vec z39α (q0) z42.2.span.was.cells, .vec z44α (q0) z48.2.span.was.cells, .vec z50α.1 (q0) z53.2.span.was.cells, .vec z50α.2 (q0) z57.2.span.was.cells, (cond (S 16) (.vec (z59α.1) (q0) z63.2.span.was.cells) (.gone)), .gone]) (by first | exact hB z59α S (S 16) false rfl e33 | (have q := hB z59α S (S 16) false rfl e33; simp only [cond_true, cond_false] at q; exact q)) ?_
       refine o_move rfl rfl guard_none (look_o rfl rfl) (fun _ => rfl) ?_
       apply h_endA (α := z59α) (z59α.1, z59α.2)
       ·exact (by (iterate 36 apply EqOn.same); exact .nil)
       ·exact rfl
       ·exact rfl
       ·exact rfl
       ·exact hB (z59α.1, z59α.2) (fun k => S k || Nat.beq k 17) (S 16) false (or_ne rfl) (or_f e33 rfl)
      ·intro z59α S hc hk hp
       have e33 : S 33 = false := (not_yet (j := 33) (q := 1) hc (not_yet (j := 22) (q := 0) hc (not_yet (j := 21) (q := 0) hc (not_yet (j := 20) (q := 0) hc hk rfl rfl rfl rfl) rfl rfl rfl rfl) rfl rfl rfl rfl) rfl rfl rfl rfl)
       refine eq_H (H' := [(cond (S 16) (.gone) (.vec z38α.1 (q0) z38.2.1.span.was.cells)), (cond (S 16) (.obj true z33 z34 (.dat (q2 z59α.1)) z63.2) (.obj true z33 z34 (.dat (q2 z38α.1)) z38.2.1)), .obj true z11 z12 (.dat (q2 z44α)) z48.2, .obj true z27 z28 (.dat (q1 z50α.1)) z53.2, .obj true z6 z7 (.dat (q1 z39α)) z42.2, .vec z38α.2.2.2.2.1 (q0) z38.2.2.2.2.2.1.span.was.cells, .obj true z21 z22 (.dat (q2 z38α.2.2.2.2.1)) z38.2.2.2.2.2.1, .obj true z16 z17 (.dat (q1 z50α.2)) z57.2, .vec z39α (q0) z42.2.span.was.cells, .vec z44α (q0) z48.2.span.was.cells, .vec z50α.1 (q0) z53.2.span.was.cells, .vec z50α.2 (q0) z57.2.span.was.cells, (cond (S 16) (.vec (z59α.1) (q0) z63.2.span.was.cells) (.gone)), .gone]) (by first | exact hB z59α S (S 16) false rfl e33 | (have q := hB z59α S (S 16) false rfl e33; simp only [cond_true, cond_false] at q; exact q)) ?_
       refine o_move rfl rfl guard_none (look_o rfl rfl) (fun _ => rfl) ?_
       apply h_endA (α := z59α) (z59α.1, z59α.2)
       ·exact (by (iterate 36 apply EqOn.same); exact .nil)
       ·exact rfl
       ·exact rfl
       ·exact rfl
       ·exact hB (z59α.1, z59α.2) (fun k => S k || Nat.beq k 18) (S 16) false (or_ne rfl) (or_f e33 rfl)
      ·intro z59α S hc hk hp
       have e33 : S 33 = false := (not_yet (j := 33) (q := 1) hc (not_yet (j := 22) (q := 0) hc (not_yet (j := 21) (q := 0) hc (not_yet (j := 20) (q := 1) hc hk rfl rfl rfl rfl) rfl rfl rfl rfl) rfl rfl rfl rfl) rfl rfl rfl rfl)
       refine eq_H (H' := [(cond (S 16) (.gone) (.vec z38α.1 (q0) z38.2.1.span.was.cells)), (cond (S 16) (.obj true z33 z34 (.dat (q2 z59α.1)) z63.2) (.obj true z33 z34 (.dat (q2 z38α.1)) z38.2.1)), .obj true z11 z12 (.dat (q2 z44α)) z48.2, .obj true z27 z28 (.dat (q1 z50α.1)) z53.2, .obj true z6 z7 (.dat (q1 z39α)) z42.2, .vec z38α.2.2.2.2.1 (q0) z38.2.2.2.2.2.1.span.was.cells, .obj true z21 z22 (.dat (q2 z38α.2.2.2.2.1)) z38.2.2.2.2.2.1, .obj true z16 z17 (.dat (q1 z50α.2)) z57.2, .vec z39α (q0) z42.2.span.was.cells, .vec z44α (q0) z48.2.span.was.cells, .vec z50α.1 (q0) z53.2.span.was.cells, .vec z50α.2 (q0) z57.2.span.was.cells, (cond (S 16) (.vec (z59α.1) (q0) z63.2.span.was.cells) (.gone)), .gone]) (by first | exact hB z59α S (S 16) false rfl e33 | (have q := hB z59α S (S 16) false rfl e33; simp only [cond_true, cond_false] at q; exact q)) ?_
       refine o_move rfl rfl guard_none (look_o rfl rfl) (fun _ => rfl) ?_
       apply h_endA (α := z59α) (z59α.1, z59α.2)
       ·exact (by (iterate 36 apply EqOn.same); exact .nil)
       ·exact rfl
       ·exact rfl
       ·exact rfl
       ·exact hB (z59α.1, z59α.2) (fun k => S k || Nat.beq k 19) (S 16) false (or_ne rfl) (or_f e33 rfl)
      ·intro z59α S hc hk hp
       have e33 : S 33 = false := (not_yet (j := 33) (q := 1) hc (not_yet (j := 22) (q := 0) hc (not_yet (j := 21) (q := 0) hc hk rfl rfl rfl rfl) rfl rfl rfl rfl) rfl rfl rfl rfl)
       refine eq_H (H' := [(cond (S 16) (.gone) (.vec z38α.1 (q0) z38.2.1.span.was.cells)), (cond (S 16) (.obj true z33 z34 (.dat (q2 z59α.1)) z63.2) (.obj true z33 z34 (.dat (q2 z38α.1)) z38.2.1)), .obj true z11 z12 (.dat (q2 z44α)) z48.2, .obj true z27 z28 (.dat (q1 z50α.1)) z53.2, .obj true z6 z7 (.dat (q1 z39α)) z42.2, .vec z38α.2.2.2.2.1 (q0) z38.2.2.2.2.2.1.span.was.cells, .obj true z21 z22 (.dat (q2 z38α.2.2.2.2.1)) z38.2.2.2.2.2.1, .obj true z16 z17 (.dat (q1 z50α.2)) z57.2, .vec z39α (q0) z42.2.span.was.cells, .vec z44α (q0) z48.2.span.was.cells, .vec z50α.1 (q0) z53.2.span.was.cells, .vec z50α.2 (q0) z57.2.span.was.cells, (cond (S 16) (.vec (z59α.1) (q0) z63.2.span.was.cells) (.gone)), .gone]) (by first | exact hB z59α S (S 16) false rfl e33 | (have q := hB z59α S (S 16) false rfl e33; simp only [cond_true, cond_false] at q; exact q)) ?_
       refine o_from (bind_eqO h_z65) ?_
       refine o_iaddr Try.underlying55 type67 rfl rfl (look_d rfl rfl (pr hp 0 rfl rfl)) (look_d rfl rfl (pr hp 1 rfl rfl)) rfl rfl (o_eqO ?_)
       apply h_endA (α := z59α) (z59α.1, z59α.2)
       ·exact (by (iterate 36 apply EqOn.same); exact .nil)
       ·exact rfl
       ·exact rfl
       ·exact rfl
       ·exact hB (z59α.1, z59α.2) (fun k => S k || Nat.beq k 20) (S 16) false (or_ne rfl) (or_f e33 rfl)
      ·intro z59α S hc hk hp
       have e33 : S 33 = false := (not_yet (j := 33) (q := 1) hc (not_yet (j := 22) (q := 0) hc hk rfl rfl rfl rfl) rfl rfl rfl rfl)
       refine eq_H (H' := [(cond (S 16) (.gone) (.vec z38α.1 (q0) z38.2.1.span.was.cells)), (cond (S 16) (.obj true z33 z34 (.dat (q2 z59α.1)) z63.2) (.obj true z33 z34 (.dat (q2 z38α.1)) z38.2.1)), .obj true z11 z12 (.dat (q2 z44α)) z48.2, .obj true z27 z28 (.dat (q1 z50α.1)) z53.2, .obj true z6 z7 (.dat (q1 z39α)) z42.2, .vec z38α.2.2.2.2.1 (q0) z38.2.2.2.2.2.1.span.was.cells, .obj true z21 z22 (.dat (q2 z38α.2.2.2.2.1)) z38.2.2.2.2.2.1, .obj true z16 z17 (.dat (q1 z50α.2)) z57.2, .vec z39α (q0) z42.2.span.was.cells, .vec z44α (q0) z48.2.span.was.cells, .vec z50α.1 (q0) z53.2.span.was.cells, .vec z50α.2 (q0) z57.2.span.was.cells, (cond (S 16) (.vec (z59α.1) (q0) z63.2.span.was.cells) (.gone)), .gone]) (by first | exact hB z59α S (S 16) false rfl e33 | (have q := hB z59α S (S 16) false rfl e33; simp only [cond_true, cond_false] at q; exact q)) ?_
       refine o_fptr field67_0 type2 (by decide) T_law16_Step_foc0 rfl rfl guard_none (look_d rfl rfl (pr hp 0 rfl rfl)) (fun _ => rfl) ?_
       apply h_endA (α := z59α) (z59α.1, z59α.2)
       ·exact (by (iterate 36 apply EqOn.same); exact .nil)
       ·exact rfl
       ·exact rfl
       ·exact rfl
       ·exact hB (z59α.1, z59α.2) (fun k => S k || Nat.beq k 21) (S 16) false (or_ne rfl) (or_f e33 rfl)
      ·intro z59α S hc hk hp
       have e33 : S 33 = false := (not_yet (j := 33) (q := 1) hc hk rfl rfl rfl rfl)
       refine eq_H (H' := [(cond (S 16) (.gone) (.vec z38α.1 (q0) z38.2.1.span.was.cells)), (cond (S 16) (.obj true z33 z34 (.dat (q2 z59α.1)) z63.2) (.obj true z33 z34 (.dat (q2 z38α.1)) z38.2.1)), .obj true z11 z12 (.dat (q2 z44α)) z48.2, .obj true z27 z28 (.dat (q1 z50α.1)) z53.2, .obj true z6 z7 (.dat (q1 z39α)) z42.2, .vec z38α.2.2.2.2.1 (q0) z38.2.2.2.2.2.1.span.was.cells, .obj true z21 z22 (.dat (q2 z38α.2.2.2.2.1)) z38.2.2.2.2.2.1, .obj true z16 z17 (.dat (q1 z50α.2)) z57.2, .vec z39α (q0) z42.2.span.was.cells, .vec z44α (q0) z48.2.span.was.cells, .vec z50α.1 (q0) z53.2.span.was.cells, .vec z50α.2 (q0) z57.2.span.was.cells, (cond (S 16) (.vec (z59α.1) (q0) z63.2.span.was.cells) (.gone)), .gone]) (by first | exact hB z59α S (S 16) false rfl e33 | (have q := hB z59α S (S 16) false rfl e33; simp only [cond_true, cond_false] at q; exact q)) ?_
       refine o_load type2 rfl rfl guard_none (look_d rfl rfl (pr hp 0 rfl rfl)) (fun _ => rfl) ?_
       apply h_endA (α := z59α) (z59α.1, z59α.2)
       ·exact (by (iterate 36 apply EqOn.same); exact .nil)
       ·exact rfl
       ·exact rfl
       ·exact rfl
       ·exact hB (z59α.1, z59α.2) (fun k => S k || Nat.beq k 22) (S 16) false (or_ne rfl) (or_f e33 rfl)
      ·intro z59α S hc hk hp
       have e33 : S 33 = false := (not_yet (j := 33) (q := 2) hc (not_yet (j := 27) (q := 0) hc (not_yet (j := 26) (q := 0) hc (not_yet (j := 25) (q := 0) hc hk rfl rfl rfl rfl) rfl rfl rfl rfl) rfl rfl rfl rfl) rfl rfl rfl rfl)
       refine eq_H (H' := [(cond (S 16) (.gone) (.vec z38α.1 (q0) z38.2.1.span.was.cells)), (cond (S 16) (.obj true z33 z34 (.dat (q2 z59α.1)) z63.2) (.obj true z33 z34 (.dat (q2 z38α.1)) z38.2.1)), .obj true z11 z12 (.dat (q2 z44α)) z48.2, .obj true z27 z28 (.dat (q1 z50α.1)) z53.2, .obj true z6 z7 (.dat (q1 z39α)) z42.2, .vec z38α.2.2.2.2.1 (q0) z38.2.2.2.2.2.1.span.was.cells, .obj true z21 z22 (.dat (q2 z38α.2.2.2.2.1)) z38.2.2.2.2.2.1, .obj true z16 z17 (.dat (q1 z50α.2)) z57.2, .vec z39α (q0) z42.2.span.was.cells, .vec z44α (q0) z48.2.span.was.cells, .vec z50α.1 (q0) z53.2.span.was.cells, .vec z50α.2 (q0) z57.2.span.was.cells, (cond (S 16) (.vec (z59α.1) (q0) z63.2.span.was.cells) (.gone)), .gone]) (by first | exact hB z59α S (S 16) false rfl e33 | (have q := hB z59α S (S 16) false rfl e33; simp only [cond_true, cond_false] at q; exact q)) ?_
       refine o_move rfl rfl guard_none (look_o rfl rfl) (fun _ => rfl) ?_
       apply h_endA (α := z59α) (z59α.1, z59α.2)
       ·exact (by (iterate 36 apply EqOn.same); exact .nil)
       ·exact rfl
       ·exact rfl
       ·exact rfl
       ·exact hB (z59α.1, z59α.2) (fun k => S k || Nat.beq k 23) (S 16) false (or_ne rfl) (or_f e33 rfl)
      ·intro z59α S hc hk hp
       have e33 : S 33 = false := (not_yet (j := 33) (q := 2) hc (not_yet (j := 27) (q := 0) hc (not_yet (j := 26) (q := 0) hc (not_yet (j := 25) (q := 1) hc hk rfl rfl rfl rfl) rfl rfl rfl rfl) rfl rfl rfl rfl) rfl rfl rfl rfl)
       refine eq_H (H' := [(cond (S 16) (.gone) (.vec z38α.1 (q0) z38.2.1.span.was.cells)), (cond (S 16) (.obj true z33 z34 (.dat (q2 z59α.1)) z63.2) (.obj true z33 z34 (.dat (q2 z38α.1)) z38.2.1)), .obj true z11 z12 (.dat (q2 z44α)) z48.2, .obj true z27 z28 (.dat (q1 z50α.1)) z53.2, .obj true z6 z7 (.dat (q1 z39α)) z42.2, .vec z38α.2.2.2.2.1 (q0) z38.2.2.2.2.2.1.span.was.cells, .obj true z21 z22 (.dat (q2 z38α.2.2.2.2.1)) z38.2.2.2.2.2.1, .obj true z16 z17 (.dat (q1 z50α.2)) z57.2, .vec z39α (q0) z42.2.span.was.cells, .vec z44α (q0) z48.2.span.was.cells, .vec z50α.1 (q0) z53.2.span.was.cells, .vec z50α.2 (q0) z57.2.span.was.cells, (cond (S 16) (.vec (z59α.1) (q0) z63.2.span.was.cells) (.gone)), .gone]) (by first | exact hB z59α S (S 16) false rfl e33 | (have q := hB z59α S (S 16) false rfl e33; simp only [cond_true, cond_false] at q; exact q)) ?_
       refine o_move rfl rfl guard_none (look_o rfl rfl) (fun _ => rfl) ?_
       apply h_endA (α := z59α) (z59α.1, z59α.2)
       ·exact (by (iterate 36 apply EqOn.same); exact .nil)
       ·exact rfl
       ·exact rfl
       ·exact rfl
       ·exact hB (z59α.1, z59α.2) (fun k => S k || Nat.beq k 24) (S 16) false (or_ne rfl) (or_f e33 rfl)
      ·intro z59α S hc hk hp
       have e33 : S 33 = false := (not_yet (j := 33) (q := 2) hc (not_yet (j := 27) (q := 0) hc (not_yet (j := 26) (q := 0) hc hk rfl rfl rfl rfl) rfl rfl rfl rfl) rfl rfl rfl rfl)
       refine eq_H (H' := [(cond (S 16) (.gone) (.vec z38α.1 (q0) z38.2.1.span.was.cells)), (cond (S 16) (.obj true z33 z34 (.dat (q2 z59α.1)) z63.2) (.obj true z33 z34 (.dat (q2 z38α.1)) z38.2.1)), .obj true z11 z12 (.dat (q2 z44α)) z48.2, .obj true z27 z28 (.dat (q1 z50α.1)) z53.2, .obj true z6 z7 (.dat (q1 z39α)) z42.2, .vec z38α.2.2.2.2.1 (q0) z38.2.2.2.2.2.1.span.was.cells, .obj true z21 z22 (.dat (q2 z38α.2.2.2.2.1)) z38.2.2.2.2.2.1, .obj true z16 z17 (.dat (q1 z50α.2)) z57.2, .vec z39α (q0) z42.2.span.was.cells, .vec z44α (q0) z48.2.span.was.cells, .vec z50α.1 (q0) z53.2.span.was.cells, .vec z50α.2 (q0) z57.2.span.was.cells, (cond (S 16) (.vec (z59α.1) (q0) z63.2.span.was.cells) (.gone)), .gone]) (by first | exact hB z59α S (S 16) false rfl e33 | (have q := hB z59α S (S 16) false rfl e33; simp only [cond_true, cond_false] at q; exact q)) ?_
       refine o_from (bind_eqO h_z66) ?_
       refine o_iaddr Try.underlying55 type67 rfl rfl (look_d rfl rfl (pr hp 0 rfl rfl)) (look_d rfl rfl (pr hp 1 rfl rfl)) rfl rfl (o_eqO ?_)
       apply h_endA (α := z59α) (z59α.1, z59α.2)
       ·exact (by (iterate 36 apply EqOn.same); exact .nil)
       ·exact rfl
       ·exact rfl
       ·exact rfl
       ·exact hB (z59α.1, z59α.2) (fun k => S k || Nat.beq k 25) (S 16) false (or_ne rfl) (or_f e33 rfl)
      ·intro z59α S hc hk hp
       have e33 : S 33 = false := (not_yet (j := 33) (q := 2) hc (not_yet (j := 27) (q := 0) hc hk rfl rfl rfl rfl) rfl rfl rfl rfl)
       refine eq_H (H' := [(cond (S 16) (.gone) (.vec z38α.1 (q0) z38.2.1.span.was.cells)), (cond (S 16) (.obj true z33 z34 (.dat (q2 z59α.1)) z63.2) (.obj true z33 z34 (.dat (q2 z38α.1)) z38.2.1)), .obj true z11 z12 (.dat (q2 z44α)) z48.2, .obj true z27 z28 (.dat (q1 z50α.1)) z53.2, .obj true z6 z7 (.dat (q1 z39α)) z42.2, .vec z38α.2.2.2.2.1 (q0) z38.2.2.2.2.2.1.span.was.cells, .obj true z21 z22 (.dat (q2 z38α.2.2.2.2.1)) z38.2.2.2.2.2.1, .obj true z16 z17 (.dat (q1 z50α.2)) z57.2, .vec z39α (q0) z42.2.span.was.cells, .vec z44α (q0) z48.2.span.was.cells, .vec z50α.1 (q0) z53.2.span.was.cells, .vec z50α.2 (q0) z57.2.span.was.cells, (cond (S 16) (.vec (z59α.1) (q0) z63.2.span.was.cells) (.gone)), .gone]) (by first | exact hB z59α S (S 16) false rfl e33 | (have q := hB z59α S (S 16) false rfl e33; simp only [cond_true, cond_false] at q; exact q)) ?_
       refine o_fptr field67_1 type4 (by decide) T_law16_Step_foc1 rfl rfl guard_none (look_d rfl rfl (pr hp 0 rfl rfl)) (fun _ => rfl) ?_
       apply h_endA (α := z59α) (z59α.1, z59α.2)
       ·exact (by (iterate 36 apply EqOn.same); exact .nil)
       ·exact rfl
       ·exact rfl
       ·exact rfl
       ·exact hB (z59α.1, z59α.2) (fun k => S k || Nat.beq k 26) (S 16) false (or_ne rfl) (or_f e33 rfl)
      ·intro z59α S hc hk hp
       have e33 : S 33 = false := (not_yet (j := 33) (q := 2) hc hk rfl rfl rfl rfl)
       refine eq_H (H' := [(cond (S 16) (.gone) (.vec z38α.1 (q0) z38.2.1.span.was.cells)), (cond (S 16) (.obj true z33 z34 (.dat (q2 z59α.1)) z63.2) (.obj true z33 z34 (.dat (q2 z38α.1)) z38.2.1)), .obj true z11 z12 (.dat (q2 z44α)) z48.2, .obj true z27 z28 (.dat (q1 z50α.1)) z53.2, .obj true z6 z7 (.dat (q1 z39α)) z42.2, .vec z38α.2.2.2.2.1 (q0) z38.2.2.2.2.2.1.span.was.cells, .obj true z21 z22 (.dat (q2 z38α.2.2.2.2.1)) z38.2.2.2.2.2.1, .obj true z16 z17 (.dat (q1 z50α.2)) z57.2, .vec z39α (q0) z42.2.span.was.cells, .vec z44α (q0) z48.2.span.was.cells, .vec z50α.1 (q0) z53.2.span.was.cells, .vec z50α.2 (q0) z57.2.span.was.cells, (cond (S 16) (.vec (z59α.1) (q0) z63.2.span.was.cells) (.gone)), .gone]) (by first | exact hB z59α S (S 16) false rfl e33 | (have q := hB z59α S (S 16) false rfl e33; simp only [cond_true, cond_false] at q; exact q)) ?_
       refine o_load type4 rfl rfl guard_none (look_d rfl rfl (pr hp 0 rfl rfl)) (fun _ => rfl) ?_
       apply h_endA (α := z59α) (z59α.1, z59α.2)
       ·exact (by (iterate 36 apply EqOn.same); exact .nil)
       ·exact rfl
       ·exact rfl
       ·exact rfl
       ·exact hB (z59α.1, z59α.2) (fun k => S k || Nat.beq k 27) (S 16) false (or_ne rfl) (or_f e33 rfl)
      ·intro z59α S hc hk hp
       have e33 : S 33 = false := (not_yet (j := 33) (q := 3) hc (not_yet (j := 32) (q := 0) hc (not_yet (j := 31) (q := 0) hc (not_yet (j := 30) (q := 0) hc hk rfl rfl rfl rfl) rfl rfl rfl rfl) rfl rfl rfl rfl) rfl rfl rfl rfl)
       refine eq_H (H' := [(cond (S 16) (.gone) (.vec z38α.1 (q0) z38.2.1.span.was.cells)), (cond (S 16) (.obj true z33 z34 (.dat (q2 z59α.1)) z63.2) (.obj true z33 z34 (.dat (q2 z38α.1)) z38.2.1)), .obj true z11 z12 (.dat (q2 z44α)) z48.2, .obj true z27 z28 (.dat (q1 z50α.1)) z53.2, .obj true z6 z7 (.dat (q1 z39α)) z42.2, .vec z38α.2.2.2.2.1 (q0) z38.2.2.2.2.2.1.span.was.cells, .obj true z21 z22 (.dat (q2 z38α.2.2.2.2.1)) z38.2.2.2.2.2.1, .obj true z16 z17 (.dat (q1 z50α.2)) z57.2, .vec z39α (q0) z42.2.span.was.cells, .vec z44α (q0) z48.2.span.was.cells, .vec z50α.1 (q0) z53.2.span.was.cells, .vec z50α.2 (q0) z57.2.span.was.cells, (cond (S 16) (.vec (z59α.1) (q0) z63.2.span.was.cells) (.gone)), .gone]) (by first | exact hB z59α S (S 16) false rfl e33 | (have q := hB z59α S (S 16) false rfl e33; simp only [cond_true, cond_false] at q; exact q)) ?_
       refine o_move rfl rfl guard_none (look_o rfl rfl) (fun _ => rfl) ?_
       apply h_endA (α := z59α) (z59α.1, z59α.2)
       ·exact (by (iterate 36 apply EqOn.same); exact .nil)
       ·exact rfl
       ·exact rfl
       ·exact rfl
       ·exact hB (z59α.1, z59α.2) (fun k => S k || Nat.beq k 28) (S 16) false (or_ne rfl) (or_f e33 rfl)
      ·intro z59α S hc hk hp
       have e33 : S 33 = false := (not_yet (j := 33) (q := 3) hc (not_yet (j := 32) (q := 0) hc (not_yet (j := 31) (q := 0) hc (not_yet (j := 30) (q := 1) hc hk rfl rfl rfl rfl) rfl rfl rfl rfl) rfl rfl rfl rfl) rfl rfl rfl rfl)
       refine eq_H (H' := [(cond (S 16) (.gone) (.vec z38α.1 (q0) z38.2.1.span.was.cells)), (cond (S 16) (.obj true z33 z34 (.dat (q2 z59α.1)) z63.2) (.obj true z33 z34 (.dat (q2 z38α.1)) z38.2.1)), .obj true z11 z12 (.dat (q2 z44α)) z48.2, .obj true z27 z28 (.dat (q1 z50α.1)) z53.2, .obj true z6 z7 (.dat (q1 z39α)) z42.2, .vec z38α.2.2.2.2.1 (q0) z38.2.2.2.2.2.1.span.was.cells, .obj true z21 z22 (.dat (q2 z38α.2.2.2.2.1)) z38.2.2.2.2.2.1, .obj true z16 z17 (.dat (q1 z50α.2)) z57.2, .vec z39α (q0) z42.2.span.was.cells, .vec z44α (q0) z48.2.span.was.cells, .vec z50α.1 (q0) z53.2.span.was.cells, .vec z50α.2 (q0) z57.2.span.was.cells, (cond (S 16) (.vec (z59α.1) (q0) z63.2.span.was.cells) (.gone)), .gone]) (by first | exact hB z59α S (S 16) false rfl e33 | (have q := hB z59α S (S 16) false rfl e33; simp only [cond_true, cond_false] at q; exact q)) ?_
       refine o_move rfl rfl guard_none (look_o rfl rfl) (fun _ => rfl) ?_
       apply h_endA (α := z59α) (z59α.1, z59α.2)
       ·exact (by (iterate 36 apply EqOn.same); exact .nil)
       ·exact rfl
       ·exact rfl
       ·exact rfl
       ·exact hB (z59α.1, z59α.2) (fun k => S k || Nat.beq k 29) (S 16) false (or_ne rfl) (or_f e33 rfl)
      ·intro z59α S hc hk hp
       have e33 : S 33 = false := (not_yet (j := 33) (q := 3) hc (not_yet (j := 32) (q := 0) hc (not_yet (j := 31) (q := 0) hc hk rfl rfl rfl rfl) rfl rfl rfl rfl) rfl rfl rfl rfl)
       refine eq_H (H' := [(cond (S 16) (.gone) (.vec z38α.1 (q0) z38.2.1.span.was.cells)), (cond (S 16) (.obj true z33 z34 (.dat (q2 z59α.1)) z63.2) (.obj true z33 z34 (.dat (q2 z38α.1)) z38.2.1)), .obj true z11 z12 (.dat (q2 z44α)) z48.2, .obj true z27 z28 (.dat (q1 z50α.1)) z53.2, .obj true z6 z7 (.dat (q1 z39α)) z42.2, .vec z38α.2.2.2.2.1 (q0) z38.2.2.2.2.2.1.span.was.cells, .obj true z21 z22 (.dat (q2 z38α.2.2.2.2.1)) z38.2.2.2.2.2.1, .obj true z16 z17 (.dat (q1 z50α.2)) z57.2, .vec z39α (q0) z42.2.span.was.cells, .vec z44α (q0) z48.2.span.was.cells, .vec z50α.1 (q0) z53.2.span.was.cells, .vec z50α.2 (q0) z57.2.span.was.cells, (cond (S 16) (.vec (z59α.1) (q0) z63.2.span.was.cells) (.gone)), .gone]) (by first | exact hB z59α S (S 16) false rfl e33 | (have q := hB z59α S (S 16) false rfl e33; simp only [cond_true, cond_false] at q; exact q)) ?_
       refine o_from (bind_eqO h_z67) ?_
       refine o_iaddr Try.underlying55 type67 rfl rfl (look_d rfl rfl (pr hp 0 rfl rfl)) (look_d rfl rfl (pr hp 1 rfl rfl)) rfl rfl (o_eqO ?_)
       apply h_endA (α := z59α) (z59α.1, z59α.2)
       ·exact (by (iterate 36 apply EqOn.same); exact .nil)
       ·exact rfl
       ·exact rfl
       ·exact rfl
       ·exact hB (z59α.1, z59α.2) (fun k => S k || Nat.beq k 30) (S 16) false (or_ne rfl) (or_f e33 rfl)
      ·intro z59α S hc hk hp
       have e33 : S 33 = false := (not_yet (j := 33) (q := 3) hc (not_yet (j := 32) (q := 0) hc hk rfl rfl rfl rfl) rfl rfl rfl rfl)
       refine eq_H (H' := [(cond (S 16) (.gone) (.vec z38α.1 (q0) z38.2.1.span.was.cells)), (cond (S 16) (.obj true z33 z34 (.dat (q2 z59α.1)) z63.2) (.obj true z33 z34 (.dat (q2 z38α.1)) z38.2.1)), .obj true z11 z12 (.dat (q2 z44α)) z48.2, .obj true z27 z28 (.dat (q1 z50α.1)) z53.2, .obj true z6 z7 (.dat (q1 z39α)) z42.2, .vec z38α.2.2.2.2.1 (q0) z38.2.2.2.2.2.1.span.was.cells, .obj true z21 z22 (.dat (q2 z38α.2.2.2.2.1)) z38.2.2.2.2.2.1, .obj true z16 z17 (.dat (q1 z50α.2)) z57.2, .vec z39α (q0) z42.2.span.was.cells, .vec z44α (q0) z48.2.span.was.cells, .vec z50α.1 (q0) z53.2.span.was.cells, .vec z50α.2 (q0) z57.2.span.was.cells, (cond (S 16) (.vec (z59α.1) (q0) z63.2.span.was.cells) (.gone)), .gone]) (by first | exact hB z59α S (S 16) false rfl e33 | (have q := hB z59α S (S 16) false rfl e33; simp only [cond_true, cond_false] at q; exact q)) ?_
       refine o_fptr field67_2 type4 (by decide) T_law16_Step_foc2 rfl rfl guard_none (look_d rfl rfl (pr hp 0 rfl rfl)) (fun _ => rfl) ?_
       apply h_endA (α := z59α) (z59α.1, z59α.2)
       ·exact (by (iterate 36 apply EqOn.same); exact .nil)
       ·exact rfl
       ·exact rfl
       ·exact rfl
       ·exact hB (z59α.1, z59α.2) (fun k => S k || Nat.beq k 31) (S 16) false (or_ne rfl) (or_f e33 rfl)
      ·intro z59α S hc hk hp
       have e33 : S 33 = false := (not_yet (j := 33) (q := 3) hc hk rfl rfl rfl rfl)
       refine eq_H (H' := [(cond (S 16) (.gone) (.vec z38α.1 (q0) z38.2.1.span.was.cells)), (cond (S 16) (.obj true z33 z34 (.dat (q2 z59α.1)) z63.2) (.obj true z33 z34 (.dat (q2 z38α.1)) z38.2.1)), .obj true z11 z12 (.dat (q2 z44α)) z48.2, .obj true z27 z28 (.dat (q1 z50α.1)) z53.2, .obj true z6 z7 (.dat (q1 z39α)) z42.2, .vec z38α.2.2.2.2.1 (q0) z38.2.2.2.2.2.1.span.was.cells, .obj true z21 z22 (.dat (q2 z38α.2.2.2.2.1)) z38.2.2.2.2.2.1, .obj true z16 z17 (.dat (q1 z50α.2)) z57.2, .vec z39α (q0) z42.2.span.was.cells, .vec z44α (q0) z48.2.span.was.cells, .vec z50α.1 (q0) z53.2.span.was.cells, .vec z50α.2 (q0) z57.2.span.was.cells, (cond (S 16) (.vec (z59α.1) (q0) z63.2.span.was.cells) (.gone)), .gone]) (by first | exact hB z59α S (S 16) false rfl e33 | (have q := hB z59α S (S 16) false rfl e33; simp only [cond_true, cond_false] at q; exact q)) ?_
       refine o_load type4 rfl rfl guard_none (look_d rfl rfl (pr hp 0 rfl rfl)) (fun _ => rfl) ?_
       apply h_endA (α := z59α) (z59α.1, z59α.2)
       ·exact (by (iterate 36 apply EqOn.same); exact .nil)
       ·exact rfl
       ·exact rfl
       ·exact rfl
       ·exact hB (z59α.1, z59α.2) (fun k => S k || Nat.beq k 32) (S 16) false (or_ne rfl) (or_f e33 rfl)
      ·intro z59α S hc hk hp
       have e16 : S 16 = true := (pr hp 4 rfl rfl)
       refine eq_H (H' := [.gone, .obj true z33 z34 (.dat (q2 z59α.1)) z63.2, .obj true z11 z12 (.dat (q2 z44α)) z48.2, .obj true z27 z28 (.dat (q1 z50α.1)) z53.2, .obj true z6 z7 (.dat (q1 z39α)) z42.2, .vec z38α.2.2.2.2.1 (q0) z38.2.2.2.2.2.1.span.was.cells, .obj true z21 z22 (.dat (q2 z38α.2.2.2.2.1)) z38.2.2.2.2.2.1, .obj true z16 z17 (.dat (q1 z50α.2)) z57.2, .vec z39α (q0) z42.2.span.was.cells, .vec z44α (q0) z48.2.span.was.cells, .vec z50α.1 (q0) z53.2.span.was.cells, .vec z50α.2 (q0) z57.2.span.was.cells, .vec (z59α.1) (q0) z63.2.span.was.cells, .gone]) (by first | exact hB z59α S true false e16 hk | (have q := hB z59α S true false e16 hk; simp only [cond_true, cond_false] at q; exact q)) ?_
       refine o_from (bind_eqO h_z68) ?_
       refine o_weak (H' := [.vec z38α.2.2.2.2.1 (q0) z38.2.2.2.2.2.1.span.was.cells, .obj true z21 z22 (.dat (q2 z38α.2.2.2.2.1)) z38.2.2.2.2.2.1] ++ ([] ++ [.gone, .obj true z33 z34 (.dat (q2 z59α.1)) z63.2, .obj true z11 z12 (.dat (q2 z44α)) z48.2, .obj true z27 z28 (.dat (q1 z50α.1)) z53.2, .obj true z6 z7 (.dat (q1 z39α)) z42.2, .obj true z16 z17 (.dat (q1 z50α.2)) z57.2, .vec z39α (q0) z42.2.span.was.cells, .vec z44α (q0) z48.2.span.was.cells, .vec z50α.1 (q0) z53.2.span.was.cells, .vec z50α.2 (q0) z57.2.span.was.cells, .vec (z59α.1) (q0) z63.2.span.was.cells, .gone])) (sub_pick [5, 6, 0, 1, 2, 3, 4, 7, 8, 9, 10, 11, 12, 13] rfl rfl) ?_
       refine o_callU rfl rfl rfl rfl rfl callable37 (looks_cons (look_d rfl rfl (pr hp 0 rfl rfl)) (fun _ => rfl) (looks_cons (look_d rfl rfl (pr hp 1 rfl rfl)) (fun _ => rfl) (looks_cons (look_d rfl rfl (pr hp 2 rfl rfl)) (fun _ => rfl) (looks_cons (look_d rfl rfl (pr hp 3 rfl rfl)) (fun _ => rfl) (looks_nil))))) .nil (window_Since_Step_ok _ _ _ z38.2.2.2.2.2.1 z65.At z66.F z67.G) (fun _ _ => (wr_v (wr_c wr_n))) (fun z69α => o_eqOH ?_)
       refine o_weak (H' := [.vec z69α (q0) z68.2.span.was.cells, .obj true z21 z22 (.dat (q2 z69α)) z68.2, .gone, .obj true z33 z34 (.dat (q2 z59α.1)) z63.2, .obj true z11 z12 (.dat (q2 z44α)) z48.2, .obj true z27 z28 (.dat (q1 z50α.1)) z53.2, .obj true z6 z7 (.dat (q1 z39α)) z42.2, .obj true z16 z17 (.dat (q1 z50α.2)) z57.2, .vec z39α (q0) z42.2.span.was.cells, .vec z44α (q0) z48.2.span.was.cells, .vec z50α.1 (q0) z53.2.span.was.cells, .vec z50α.2 (q0) z57.2.span.was.cells, .vec (z59α.1) (q0) z63.2.span.was.cells, .gone]) (sub_pick [0, 1, 2, 3, 4, 5, 6, 7, 8, 9, 10, 11, 12, 13] rfl rfl) ?_
       refine o_weak sub_gone ?_
       refine o_weak (H' := [.gone, .obj true z33 z34 (.dat (q2 z59α.1)) z63.2, .obj true z11 z12 (.dat (q2 z44α)) z48.2, .obj true z27 z28 (.dat (q1 z50α.1)) z53.2, .obj true z6 z7 (.dat (q1 z39α)) z42.2, .gone, .obj true z21 z22 (.dat (q2 z69α)) z68.2, .obj true z16 z17 (.dat (q1 z50α.2)) z57.2, .vec z39α (q0) z42.2.span.was.cells, .vec z44α (q0) z48.2.span.was.cells, .vec z50α.1 (q0) z53.2.span.was.cells, .vec z50α.2 (q0) z57.2.span.was.cells, .vec (z59α.1) (q0) z63.2.span.was.cells, .vec z69α (q0) z68.2.span.was.cells]) (sub_pick [3, 4, 5, 6, 7, 0, 2, 8, 9, 10, 11, 12, 13, 1] rfl rfl) ?_
       apply h_endA (α := z59α) (z59α.1, z69α)
       ·exact (by (iterate 36 apply EqOn.same); exact .nil)
       ·exact rfl
       ·exact rfl
       ·exact rfl
       ·exact hB (z59α.1, z69α) (fun k => S k || Nat.beq k 33) true true (or_t e16) (or_i rfl)
      ·intro z59α S hc hk hp
       have e16 : S 16 = true := (pr hp 0 rfl rfl)
       have e33 : S 33 = true := (pr hp 1 rfl rfl)
       refine eq_H (H' := [.gone, .obj true z33 z34 (.dat (q2 z59α.1)) z63.2, .obj true z11 z12 (.dat (q2 z44α)) z48.2, .obj true z27 z28 (.dat (q1 z50α.1)) z53.2, .obj true z6 z7 (.dat (q1 z39α)) z42.2, .gone, .obj true z21 z22 (.dat (q2 z59α.2)) z68.2, .obj true z16 z17 (.dat (q1 z50α.2)) z57.2, .vec z39α (q0) z42.2.span.was.cells, .vec z44α (q0) z48.2.span.was.cells, .vec z50α.1 (q0) z53.2.span.was.cells, .vec z50α.2 (q0) z57.2.span.was.cells, .vec (z59α.1) (q0) z63.2.span.was.cells, .vec (z59α.2) (q0) z68.2.span.was.cells]) (by first | exact hB z59α S true true e16 e33 | (have q := hB z59α S true true e16 e33; simp only [cond_true, cond_false] at q; exact q)) ?_
       refine o_assign rfl rfl guard_none (look_d rfl rfl (pr hp 0 rfl rfl)) (fun _ => rfl) ?_
       apply h_endA (α := z59α) (z59α.1, z59α.2)
       ·exact (by (iterate 36 apply EqOn.same); exact .nil)
       ·exact rfl
       ·exact rfl
       ·exact rfl
       ·exact hB (z59α.1, z59α.2) (fun k => S k || Nat.beq k 34) true true (or_t e16) (or_t e33)
      ·intro z59α S hc hk hp
       have e16 : S 16 = true := (pr hp 18 rfl rfl)
       have e33 : S 33 = true := (pr hp 0 rfl rfl)
       refine eq_H (H' := [.gone, .obj true z33 z34 (.dat (q2 z59α.1)) z63.2, .obj true z11 z12 (.dat (q2 z44α)) z48.2, .obj true z27 z28 (.dat (q1 z50α.1)) z53.2, .obj true z6 z7 (.dat (q1 z39α)) z42.2, .gone, .obj true z21 z22 (.dat (q2 z59α.2)) z68.2, .obj true z16 z17 (.dat (q1 z50α.2)) z57.2, .vec z39α (q0) z42.2.span.was.cells, .vec z44α (q0) z48.2.span.was.cells, .vec z50α.1 (q0) z53.2.span.was.cells, .vec z50α.2 (q0) z57.2.span.was.cells, .vec (z59α.1) (q0) z63.2.span.was.cells, .vec (z59α.2) (q0) z68.2.span.was.cells]) (by first | exact hB z59α S true true e16 e33 | (have q := hB z59α S true true e16 e33; simp only [cond_true, cond_false] at q; exact q)) ?_
       refine o_assign rfl rfl guard_none (look_d rfl rfl (pr hp 0 rfl rfl)) (fun _ => rfl) ?_
       apply h_endA (α := z59α) (z59α.1, z59α.2)
       ·exact (by (iterate 36 apply EqOn.same); exact .nil)
       ·exact rfl
       ·exact rfl
       ·exact rfl
       ·exact hB (z59α.1, z59α.2) (fun k => S k || Nat.beq k 35) true true (or_t e16) (or_t e33)
      refine den_weak (H' := [.obj true z33 z34 (.dat (q2 z59α.1)) z63.2, .obj true z11 z12 (.dat (q2 z44α)) z48.2, .obj true z27 z28 (.dat (q1 z50α.1)) z53.2, .obj true z6 z7 (.dat (q1 z39α)) z42.2, .obj true z21 z22 (.dat (q2 z59α.2)) z68.2, .obj true z16 z17 (.dat (q1 z50α.2)) z57.2, .vec z39α (q0) z42.2.span.was.cells, .vec z44α (q0) z48.2.span.was.cells, .vec z50α.1 (q0) z53.2.span.was.cells, .vec z50α.2 (q0) z57.2.span.was.cells, .vec z59α.1 (q0) z63.2.span.was.cells, .vec z59α.2 (q0) z68.2.span.was.cells]) (sub_pick [1, 2, 3, 4, 6, 7, 8, 9, 10, 11, 12, 13] rfl rfl) ?_
      refine den_seq ?_
      refine den_region rfl ?_
      refine o_move rfl rfl guard_none (look_tmp rfl) (fun _ => rfl) ?_
      refine o_move rfl rfl guard_none (look_tmp rfl) (fun _ => rfl) ?_
      refine o_bneq Try.underlying4 rfl rfl guard_none (look_tmp rfl) (look_tmp rfl) (fun _ => rfl) (fun _ => rfl) ?_
      refine o_move rfl rfl guard_none (look_tmp rfl) (fun _ => rfl) ?_
      refine o_move rfl rfl (guard_some rfl rfl rfl) (look_tmp rfl) (fun _ => rfl) ?_
      refine o_move rfl rfl (guard_some rfl rfl rfl) (look_tmp rfl) (fun _ => rfl) ?_
      refine o_bneq Try.underlying4 rfl rfl (guard_some rfl rfl rfl) (look_tmp rfl) (look_tmp rfl) (fun h => h) (fun h => h) ?_
      refine o_pick rfl rfl guard_none (look_tmp rfl) look_bool (look_tmp rfl) (fun _ => rfl) (fun _ _ => rfl) (fun h1 h2 => pick_f ((fun _ => rfl) h1) h2) ?_
      refine o_move rfl rfl guard_none (look_tmp rfl) (fun _ => rfl) ?_
      refine o_move rfl rfl (guard_some rfl rfl rfl) (look_tmp rfl) (fun _ => rfl) ?_
      refine o_weak (H' := [] ++ ([.vec z50α.1 (q0) z53.2.span.was.cells, .obj true z27 z28 (.dat (q1 z50α.1)) z53.2] ++ [.obj true z33 z34 (.dat (q2 z59α.1)) z63.2, .obj true z11 z12 (.dat (q2 z44α)) z48.2, .obj true z6 z7 (.dat (q1 z39α)) z42.2, .obj true z21 z22 (.dat (q2 z59α.2)) z68.2, .obj true z16 z17 (.dat (q1 z50α.2)) z57.2, .vec z39α (q0) z42.2.span.was.cells, .vec z44α (q0) z48.2.span.was.cells, .vec z50α.2 (q0) z57.2.span.was.cells, .vec z59α.1 (q0) z63.2.span.was.cells, .vec z59α.2 (q0) z68.2.span.was.cells])) (sub_pick [8, 2, 0, 1, 3, 4, 5, 6, 7, 9, 10, 11] rfl rfl) ?_
      refine o_callX (its := []) (0 : Int) () rfl rfl rfl rfl (guard_some rfl rfl rfl) callable35 (looks_cons (look_tmp rfl) (fun h => h) (looks_nil)) (.vec (.cons .nil)) (window_Once_Cells_ok _ _ _ z53.2) (fun _ _ => wr_n) ?_ (fun z71α z70 => ?_)
      ·exact fun _ => rfl
      refine o_weak (H' := [.vec z50α.1 (q0) z53.2.span.was.cells, .obj true z27 z28 (.dat (q1 z50α.1)) z53.2, .obj true z33 z34 (.dat (q2 z59α.1)) z63.2, .obj true z11 z12 (.dat (q2 z44α)) z48.2, .obj true z6 z7 (.dat (q1 z39α)) z42.2, .obj true z21 z22 (.dat (q2 z59α.2)) z68.2, .obj true z16 z17 (.dat (q1 z50α.2)) z57.2, .vec z39α (q0) z42.2.span.was.cells, .vec z44α (q0) z48.2.span.was.cells, .vec z50α.2 (q0) z57.2.span.was.cells, .vec z59α.1 (q0) z63.2.span.was.cells, .vec z59α.2 (q0) z68.2.span.was.cells]) (sub_pick [0, 1, 2, 3, 4, 5, 6, 7, 8, 9, 10, 11] rfl rfl) ?_
      refine o_move rfl rfl (guard_some rfl rfl rfl) (look_tmp rfl) (fun _ => rfl) ?_
      refine o_weak (H' := [] ++ ([.vec z50α.2 (q0) z57.2.span.was.cells, .obj true z16 z17 (.dat (q1 z50α.2)) z57.2] ++ [.vec z50α.1 (q0) z53.2.span.was.cells, .obj true z27 z28 (.dat (q1 z50α.1)) z53.2, .obj true z33 z34 (.dat (q2 z59α.1)) z63.2, .obj true z11 z12 (.dat (q2 z44α)) z48.2, .obj true z6 z7 (.dat (q1 z39α)) z42.2, .obj true z21 z22 (.dat (q2 z59α.2)) z68.2, .vec z39α (q0) z42.2.span.was.cells, .vec z44α (q0) z48.2.span.was.cells, .vec z59α.1 (q0) z63.2.span.was.cells, .vec z59α.2 (q0) z68.2.span.was.cells])) (sub_pick [9, 6, 0, 1, 2, 3, 4, 5, 7, 8, 10, 11] rfl rfl) ?_
      refine o_callX (its := []) (0 : Int) () rfl rfl rfl rfl (guard_some rfl rfl rfl) callable35 (looks_cons (look_tmp rfl) (fun h => h) (looks_nil)) (.vec (.cons .nil)) (window_Once_Cells_ok _ _ _ z57.2) (fun _ _ => wr_n) ?_ (fun z73α z72 => ?_)
      ·exact fun _ => rfl
      refine o_weak (H' := [.vec z50α.2 (q0) z57.2.span.was.cells, .obj true z16 z17 (.dat (q1 z50α.2)) z57.2, .vec z50α.1 (q0) z53.2.span.was.cells, .obj true z27 z28 (.dat (q1 z50α.1)) z53.2, .obj true z33 z34 (.dat (q2 z59α.1)) z63.2, .obj true z11 z12 (.dat (q2 z44α)) z48.2, .obj true z6 z7 (.dat (q1 z39α)) z42.2, .obj true z21 z22 (.dat (q2 z59α.2)) z68.2, .vec z39α (q0) z42.2.span.was.cells, .vec z44α (q0) z48.2.span.was.cells, .vec z59α.1 (q0) z63.2.span.was.cells, .vec z59α.2 (q0) z68.2.span.was.cells]) (sub_pick [0, 1, 2, 3, 4, 5, 6, 7, 8, 9, 10, 11] rfl rfl) ?_
      refine o_neq rfl rfl (guard_some rfl rfl rfl) (look_tmp rfl) (look_tmp rfl) (fun h => h) (fun h => h) ?_
      refine o_pick rfl rfl guard_none (look_tmp rfl) look_bool (look_tmp rfl) (fun _ => rfl) (fun _ _ => rfl) (fun h1 h2 => pick_f ((fun _ => rfl) h1) h2) ?_
      refine o_move rfl rfl guard_none (look_tmp rfl) (fun _ => rfl) ?_
      refine o_move rfl rfl (guard_some rfl rfl rfl) (look_tmp rfl) (fun _ => rfl) ?_
      refine o_weak (H' := [] ++ ([.vec z59α.1 (q0) z63.2.span.was.cells, .obj true z33 z34 (.dat (q2 z59α.1)) z63.2] ++ [.vec z50α.2 (q0) z57.2.span.was.cells, .obj true z16 z17 (.dat (q1 z50α.2)) z57.2, .vec z50α.1 (q0) z53.2.span.was.cells, .obj true z27 z28 (.dat (q1 z50α.1)) z53.2, .obj true z11 z12 (.dat (q2 z44α)) z48.2, .obj true z6 z7 (.dat (q1 z39α)) z42.2, .obj true z21 z22 (.dat (q2 z59α.2)) z68.2, .vec z39α (q0) z42.2.span.was.cells, .vec z44α (q0) z48.2.span.was.cells, .vec z59α.2 (q0) z68.2.span.was.cells])) (sub_pick [10, 4, 0, 1, 2, 3, 5, 6, 7, 8, 9, 11] rfl rfl) ?_
      refine o_callX (its := []) (0 : Int) () rfl rfl rfl rfl (guard_some rfl rfl rfl) callable38 (looks_cons (look_tmp rfl) (fun h => h) (looks_nil)) (.vec (.cons .nil)) (window_Since_Cells_ok _ _ _ z63.2) (fun _ _ => wr_n) ?_ (fun z75α z74 => ?_)
      ·exact fun _ => rfl
      refine o_weak (H' := [.vec z59α.1 (q0) z63.2.span.was.cells, .obj true z33 z34 (.dat (q2 z59α.1)) z63.2, .vec z50α.2 (q0) z57.2.span.was.cells, .obj true z16 z17 (.dat (q1 z50α.2)) z57.2, .vec z50α.1 (q0) z53.2.span.was.cells, .obj true z27 z28 (.dat (q1 z50α.1)) z53.2, .obj true z11 z12 (.dat (q2 z44α)) z48.2, .obj true z6 z7 (.dat (q1 z39α)) z42.2, .obj true z21 z22 (.dat (q2 z59α.2)) z68.2, .vec z39α (q0) z42.2.span.was.cells, .vec z44α (q0) z48.2.span.was.cells, .vec z59α.2 (q0) z68.2.span.was.cells]) (sub_pick [0, 1, 2, 3, 4, 5, 6, 7, 8, 9, 10, 11] rfl rfl) ?_
      refine o_move rfl rfl (guard_some rfl rfl rfl) (look_tmp rfl) (fun _ => rfl) ?_
      refine o_weak (H' := [] ++ ([.vec z59α.2 (q0) z68.2.span.was.cells, .obj true z21 z22 (.dat (q2 z59α.2)) z68.2] ++ [.vec z59α.1 (q0) z63.2.span.was.cells, .obj true z33 z34 (.dat (q2 z59α.1)) z63.2, .vec z50α.2 (q0) z57.2.span.was.cells, .obj true z16 z17 (.dat (q1 z50α.2)) z57.2, .vec z50α.1 (q0) z53.2.span.was.cells, .obj true z27 z28 (.dat (q1 z50α.1)) z53.2, .obj true z11 z12 (.dat (q2 z44α)) z48.2, .obj true z6 z7 (.dat (q1 z39α)) z42.2, .vec z39α (q0) z42.2.span.was.cells, .vec z44α (q0) z48.2.span.was.cells])) (sub_pick [11, 8, 0, 1, 2, 3, 4, 5, 6, 7, 9, 10] rfl rfl) ?_
      refine o_callX (its := []) (0 : Int) () rfl rfl rfl rfl (guard_some rfl rfl rfl) callable38 (looks_cons (look_tmp rfl) (fun h => h) (looks_nil)) (.vec (.cons .nil)) (window_Since_Cells_ok _ _ _ z68.2) (fun _ _ => wr_n) ?_ (fun z77α z76 => ?_)
      ·exact fun _ => rfl
      refine o_weak (H' := [.vec z59α.2 (q0) z68.2.span.was.cells, .obj true z21 z22 (.dat (q2 z59α.2)) z68.2, .vec z59α.1 (q0) z63.2.span.was.cells, .obj true z33 z34 (.dat (q2 z59α.1)) z63.2, .vec z50α.2 (q0) z57.2.span.was.cells, .obj true z16 z17 (.dat (q1 z50α.2)) z57.2, .vec z50α.1 (q0) z53.2.span.was.cells, .obj true z27 z28 (.dat (q1 z50α.1)) z53.2, .obj true z11 z12 (.dat (q2 z44α)) z48.2, .obj true z6 z7 (.dat (q1 z39α)) z42.2, .vec z39α (q0) z42.2.span.was.cells, .vec z44α (q0) z48.2.span.was.cells]) (sub_pick [0, 1, 2, 3, 4, 5, 6, 7, 8, 9, 10, 11] rfl rfl) ?_
      refine o_neq rfl rfl (guard_some rfl rfl rfl) (look_tmp rfl) (look_tmp rfl) (fun h => h) (fun h => h) ?_
      refine o_pick rfl rfl guard_none (look_tmp rfl) look_bool (look_tmp rfl) (fun _ => rfl) (fun _ _ => rfl) (fun h1 h2 => pick_f ((fun _ => rfl) h1) h2) ?_
      refine o_end ?_
      refine den_cond (look_tmp rfl) ?_ ?_
      ·refine den_seq ?_
       refine den_region rfl ?_
       refine o_assign rfl rfl guard_none look_bool (fun _ => rfl) ?_
       refine o_end ?_
       refine den_code_ret ?_
       refine dene_ret ?_
       refine dene_loopA (by simp) ?_
       refine dene_ret ?_
       refine dene_both (by simp) ?_
       refine dene_ret ?_
       exact dene_res (res1 rfl (rv_tmp rfl))
      ·refine den_skip ?_
       refine den_blkend ?_
       refine den_region rfl ?_
       refine o_move rfl rfl guard_none (look_tmp rfl) (fun _ => rfl) ?_
       refine o_add rfl rfl guard_none (look_tmp rfl) (look_int rfl) (fun _ => rfl) (fun _ => rfl) ?_
       refine o_assign rfl rfl guard_none (look_tmp rfl) (fun _ => rfl) ?_
       refine o_end ?_
       refine den_nextA (z59α.1, z44α, z50α.1, z39α, z59α.2, z50α.2) ((Sub.trans (sub_pick [2, 3, 11, 8, 6, 7, 10, 9, 0, 1, 4, 5] rfl rfl) (sub_env (sube_cons rfl (sube_cons rfl (sube_cons rfl (sube_cons rfl (sube_cons rfl (sube_cons rfl (sube_cons rfl (sube_cons rfl (sube_nil))))))))))))
     ·refine den_code_exit ?_
      refine dene_out rfl ?_
      refine dene_loopA (by simp) ?_
      refine dene_to rfl ?_
      refine den_endl ((Sub.trans (sub_pick [] rfl rfl) (sub_env (sube_nil))))
    refine den_seq ?_
    refine den_region rfl ?_
    refine o_assign rfl rfl guard_none look_bool (fun _ => rfl) ?_
    refine o_end ?_
    refine den_code_ret ?_
    exact dene_res (res1 rfl (rv_tmp rfl))

end Go.Proofs.Ytlikbfnaihccmaa.M
