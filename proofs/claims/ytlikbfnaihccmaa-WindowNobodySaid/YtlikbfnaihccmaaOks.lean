/- That the Go functions answer as the plain ones: written by gen2.py. -/
import Derived.Test.YtlikbfnaihccmaaOks3
namespace Go.Proofs.Ytlikbfnaihccmaa.M
open Go.Eng Go
set_option linter.unusedVariables false

theorem law16_WindowSince_ok  (lo_0 : Int) (hi_1 : Int) (l_2 : (List T_law16_Step)) : FunOk Try.prog 10 [⟨Rep.int .i64, lo_0, true⟩, ⟨Rep.int .i64, hi_1, true⟩, ⟨(T_law16_Step_rep).slice, l_2, true⟩] (law16_WindowSince lo_0 hi_1 l_2) (Rep.bool) := by
  refine fun_ok Try.func10 rfl Try.ntmps10 rfl (all_cons rfl (all_cons rfl (all_cons rfl all_nil))) (fun w0 ok0 => ?_)
  refine den_seq ?_
  refine den_region rfl ?_
  refine o_assign rfl rfl guard_none look_bool (fun _ => rfl) ?_
  refine o_end ?_
  refine den_seq ?_
  refine den_seq ?_
  refine den_region rfl ?_
  refine o_call rfl rfl rfl callable28 (looks_nil) (law16_alive_ok) (fun z1 => ?_)
  refine o_not rfl rfl guard_none (look_tmp rfl) (fun _ => rfl) ?_
  refine o_end ?_
  refine den_cond (look_tmp rfl) ?_ ?_
  · refine den_seq ?_
    refine den_region rfl ?_
    refine o_assign rfl rfl guard_none look_bool (fun _ => rfl) ?_
    refine o_end ?_
    refine den_code_ret ?_
    refine dene_ret ?_
    exact dene_res (res1 rfl (rv_tmp rfl))
  · refine den_skip ?_
    refine den_seq ?_
    refine den_region rfl ?_
    refine o_move rfl rfl guard_none (look_tmp rfl) (fun _ => rfl) ?_
    refine o_call rfl rfl rfl callable29 (looks_cons (look_tmp rfl) (fun _ => rfl) (looks_nil)) (law16_few_ok _) (fun z2 => ?_)
    refine o_assign rfl rfl guard_none (look_tmp rfl) (fun _ => rfl) ?_
    refine o_end ?_
    refine den_seq ?_
    refine den_region rfl ?_
    refine o_move rfl rfl guard_none (look_tmp rfl) (fun _ => rfl) ?_
    refine o_weak (H' := [] ++ ([] ++ [])) (sub_pick [] rfl rfl) ?_
    refine o_callU rfl rfl rfl rfl rfl callable30 (looks_cons (look_tmp rfl) (fun _ => rfl) (looks_nil)) .nil (law16_times_ok z2) (fun _ _ => (wr_v wr_n)) (fun z4α z3 => ?_)
    refine o_weak (H' := [.vec z4α (Rep.int .i64) z3]) (sub_pick [0] rfl rfl) ?_
    refine o_assign rfl rfl guard_none (look_tmp rfl) (fun _ => rfl) ?_
    refine o_end ?_
    refine den_seq ?_
    refine den_region rfl ?_
    refine o_move rfl rfl guard_none (look_tmp rfl) (fun _ => rfl) ?_
    refine o_move rfl rfl guard_none (look_tmp rfl) (fun _ => rfl) ?_
    refine o_call rfl rfl rfl callable31 (looks_cons (look_tmp rfl) (fun _ => rfl) (looks_cons (look_tmp rfl) (fun _ => rfl) (looks_nil))) (law16_ends_ok _ _) (fun z6 => ?_)
    refine o_move rfl rfl guard_none (look_tmp rfl) (fun _ => rfl) ?_
    refine o_fst rfl rfl guard_none (look_tmp rfl) (fun _ => rfl) ?_
    refine o_snd rfl rfl guard_none (look_tmp rfl) (fun _ => rfl) ?_
    refine o_assign rfl rfl guard_none (look_tmp rfl) (fun _ => rfl) ?_
    refine o_assign rfl rfl guard_none (look_tmp rfl) (fun _ => rfl) ?_
    refine o_end ?_
    refine den_seq ?_
    refine den_region rfl ?_
    refine o_move rfl rfl guard_none (look_tmp rfl) (fun _ => rfl) ?_
    refine o_move rfl rfl guard_none (look_tmp rfl) (fun _ => rfl) ?_
    refine o_weak (H' := [] ++ ([] ++ [.vec z4α (Rep.int .i64) z3])) (sub_pick [0] rfl rfl) ?_
    refine o_callU rfl rfl rfl rfl rfl callable36 (looks_cons (look_tmp rfl) (fun _ => rfl) (looks_cons (look_tmp rfl) (fun _ => rfl) (looks_nil))) .nil (window_NewSince_ok lo_0 hi_1) (fun _ _ => (wr_v (wr_c wr_n))) (fun z8α z7 => ?_)
    obtain ⟨⟨z9, z10⟩, z11⟩ := z8α
    refine o_weak (H' := [.vec z11 (T_deque_Cell_rep) z7.span.was.cells, .obj true z9 z10 (.dat (T_window_Since_repo z11)) z7, .vec z4α (Rep.int .i64) z3]) (sub_pick [0, 1, 2] rfl rfl) ?_
    refine o_assign rfl rfl guard_none (look_tmp rfl) (fun _ => rfl) ?_
    refine o_end ?_
    refine den_seq ?_
    refine den_seq ?_
    refine den_region rfl ?_
    refine o_assign rfl rfl guard_none (look_int rfl) (fun _ => rfl) ?_
    refine o_end ?_
    refine den_bothA (A := Value) (fun z12α z12 => [(2, ⟨(T_law16_Step_rep).slice, z2, true⟩), (10, ⟨Rep.addr, (z9, z10), true⟩)]) (fun z12α z12 => [.vec z12α (T_deque_Cell_rep) z12.span.was.cells, .obj true z9 z10 (.dat (T_window_Since_repo z12α)) z12]) ?_ (fun z12α z12 => ?_)
    · refine den_block ?_
      refine den_weak (H' := [.vec z4α (Rep.int .i64) z3, .vec z11 (T_deque_Cell_rep) z7.span.was.cells, .obj true z9 z10 (.dat (T_window_Since_repo z11)) z7]) (sub_pick [2, 0, 1] rfl rfl) ?_
      refine den_weak (sub_freeze (s := 7) rfl) ?_
      refine den_loopA (A := Value) (law16_WindowSince_L1b z2 z3 z6) (fun z16α z16 => [(11, ⟨Rep.int .i64, z16.1, true⟩), (2, ⟨(T_law16_Step_rep).slice, z2, true⟩), (7, ⟨(Rep.int .i64).slice, z3, true⟩), (8, ⟨Rep.int .i64, z6.1, true⟩), (9, ⟨Rep.int .i64, z6.2, true⟩), (10, ⟨Rep.addr, (z9, z10), true⟩)]) (fun z16α z16 => [.vec z16α (T_deque_Cell_rep) z16.2.span.was.cells, .obj true z9 z10 (.dat (T_window_Since_repo z16α)) z16.2]) (0, z7) z11 (fun z16α z16 => ?_) ((sub_env (sube_cons rfl (sube_cons rfl (sube_cons rfl (sube_cons rfl (sube_cons rfl (sube_cons rfl (sube_nil)))))))))
      refine den_seq ?_
      refine den_seq ?_
      refine den_region rfl ?_
      refine o_move rfl rfl guard_none (look_tmp rfl) (fun _ => rfl) ?_
      refine o_move rfl rfl guard_none (look_tmp rfl) (fun _ => rfl) ?_
      refine o_llen Try.underlying55 rfl rfl guard_none (look_tmp rfl) (fun _ => rfl) ?_
      refine o_lss rfl rfl guard_none (look_tmp rfl) (look_tmp rfl) (fun _ => rfl) (fun _ => rfl) ?_
      refine o_end ?_
      refine den_cond (look_tmp rfl) ?_ ?_
      · refine den_skip ?_
        refine den_seq ?_
        refine den_block ?_
        refine den_seq ?_
        refine den_region rfl ?_
        refine o_move rfl rfl guard_none (look_tmp rfl) (fun _ => rfl) ?_
        refine o_move rfl rfl guard_none (look_tmp rfl) (fun _ => rfl) ?_
        refine o_move rfl rfl guard_none (look_tmp rfl) (fun _ => rfl) ?_
        refine o_move rfl rfl guard_none (look_tmp rfl) (fun _ => rfl) ?_
        refine o_move rfl rfl guard_none (look_tmp rfl) (fun _ => rfl) ?_
        refine o_call rfl rfl rfl callable33 (looks_cons (look_tmp rfl) (fun _ => rfl) (looks_cons (look_tmp rfl) (fun _ => rfl) (looks_cons (look_tmp rfl) (fun _ => rfl) (looks_cons (look_tmp rfl) (fun _ => rfl) (looks_cons (look_tmp rfl) (fun _ => rfl) (looks_cons look_bool (fun _ => rfl) (looks_nil))))))) (law16_told_ok _ _ _ _ _ _) (fun z17 => ?_)
        refine o_move rfl rfl guard_none (look_tmp rfl) (fun _ => rfl) ?_
        refine o_fst rfl rfl guard_none (look_tmp rfl) (fun _ => rfl) ?_
        refine o_snd rfl rfl guard_none (look_tmp rfl) (fun _ => rfl) ?_
        refine o_assign rfl rfl guard_none (look_tmp rfl) (fun _ => rfl) ?_
        refine o_assign rfl rfl guard_none (look_tmp rfl) (fun _ => rfl) ?_
        refine o_end ?_
        refine den_seq ?_
        refine den_open (fun z19 h_z19 => ?_)
        refine den_open (fun z20 h_z20 => ?_)
        refine den_open (fun z21 h_z21 => ?_)
        refine den_open (fun z22 h_z22 => ?_)
        refine den_open (fun z24 h_z24 => ?_)
        have hB : ∀ (z18α : Value) (S : Nat → Bool) (b16 : Bool), S 16 = b16 → (([(cond (S 16) (.gone) (.vec z16α (T_deque_Cell_rep) z16.2.span.was.cells)), (cond (S 16) (.obj true z9 z10 (.dat (T_window_Since_repo z18α)) z22.2) (.obj true z9 z10 (.dat (T_window_Since_repo z16α)) z16.2)), (cond (S 16) (.vec (z18α) (T_deque_Cell_rep) z22.2.span.was.cells) (.gone))] : List Go.Eng.Item)) = ([(cond b16 (.gone) (.vec z16α (T_deque_Cell_rep) z16.2.span.was.cells)), (cond b16 (.obj true z9 z10 (.dat (T_window_Since_repo z18α)) z22.2) (.obj true z9 z10 (.dat (T_window_Since_repo z16α)) z16.2)), (cond b16 (.vec (z18α) (T_deque_Cell_rep) z22.2.span.was.cells) (.gone))] : List Go.Eng.Item) := fun z18α S b16 h16 => by subst h16; rfl
        refine den_weak sub_gone ?_
        refine den_weak (sub_pick (H' := [.vec z16α (T_deque_Cell_rep) z16.2.span.was.cells, .obj true z9 z10 (.dat (T_window_Since_repo z16α)) z16.2, .gone]) [1, 2, 0] rfl rfl) ?_
        refine den_drawA (A := Value) (H' := fun z18α => [.gone, .obj true z9 z10 (.dat (T_window_Since_repo z18α)) z22.2, .vec (z18α) (T_deque_Cell_rep) z22.2.span.was.cells]) (fun z18α => [(44, ⟨Rep.addr, (z9, z10), true⟩), (45, ⟨(T_law16_Step_rep).slice, z2, true⟩), (46, ⟨Rep.int .i64, z16.1, true⟩), (47, ⟨(T_law16_Step_rep).ptrTo, z19, true⟩), (48, ⟨(Rep.int .i64).ptrTo, z19.At, true⟩), (49, ⟨Rep.int .i64, z19.At, true⟩), (50, ⟨(T_law16_Step_rep).slice, z2, true⟩), (51, ⟨Rep.int .i64, z16.1, true⟩), (52, ⟨(T_law16_Step_rep).ptrTo, z20, true⟩), (53, ⟨(Rep.bool).ptrTo, z20.F, true⟩), (54, ⟨Rep.bool, z20.F, true⟩), (55, ⟨(T_law16_Step_rep).slice, z2, true⟩), (56, ⟨Rep.int .i64, z16.1, true⟩), (57, ⟨(T_law16_Step_rep).ptrTo, z21, true⟩), (58, ⟨(Rep.bool).ptrTo, z21.G, true⟩), (59, ⟨Rep.bool, z21.G, true⟩), (60, ⟨Rep.bool, z22.1, true⟩), (61, ⟨Rep.bool, z17.1, true⟩), (62, ⟨Rep.bool, z22.1 != z17.1, true⟩), (63, ⟨Rep.bool, z22.1 != z17.1, true⟩), (64, ⟨Rep.addr, (z9, z10), (true && ((z22.1 != z17.1) == false))⟩), (65, ⟨Rep.int .i64, z24, (true && ((z22.1 != z17.1) == false))⟩), (66, ⟨Rep.int .i64, z17.2, (true && ((z22.1 != z17.1) == false))⟩), (67, ⟨Rep.bool, z24 != z17.2, (true && ((z22.1 != z17.1) == false))⟩), (68, ⟨Rep.bool, cond (z22.1 != z17.1) true (z24 != z17.2), true⟩)]) (fun z18α S => [(cond (S 16) (.gone) (.vec z16α (T_deque_Cell_rep) z16.2.span.was.cells)), (cond (S 16) (.obj true z9 z10 (.dat (T_window_Since_repo z18α)) z22.2) (.obj true z9 z10 (.dat (T_window_Since_repo z16α)) z16.2)), (cond (S 16) (.vec (z18α) (T_deque_Cell_rep) z22.2.span.was.cells) (.gone))]) (Value.slice none 0 0) mixed (fun _ => rfl) rfl rfl (fun z18α S hS => hB z18α S true (hS 16 (by decide))) ⟨?_, ?_, ?_, ?_, ?_, ?_, ?_, ?_, ?_, ?_, ?_, ?_, ?_, ?_, ?_, ?_, ?_, ?_, ?_, ?_, ?_, ?_, ?_, ?_, ?_, trivial⟩ (fun z18α => ?_)
        · intro z18α S hc hk hp
          have e16 : S 16 = false := (not_yet (j := 16) (q := 0) hc hk rfl rfl rfl rfl)
          refine eq_H (H' := [.vec z16α (T_deque_Cell_rep) z16.2.span.was.cells, .obj true z9 z10 (.dat (T_window_Since_repo z16α)) z16.2, .gone]) (by first | exact hB z18α S false e16 | (have q := hB z18α S false e16; simp only [cond_true, cond_false] at q; exact q)) ?_
          refine o_move rfl rfl guard_none (look_o rfl rfl) (fun _ => rfl) ?_
          apply h_endA (α := z18α) z18α
          · exact (.same (.same (.same (.same (.same (.same (.same (.same (.same (.same (.same (.same (.same (.same (.same (.same (.same (.same (.same (.same (.same (.same (.same (.same (.same .nil)))))))))))))))))))))))))
          · exact rfl
          · exact rfl
          · exact rfl
          · exact hB z18α (fun k => S k || Nat.beq k 0) false (or_f e16 rfl)
        · intro z18α S hc hk hp
          have e16 : S 16 = false := (not_yet (j := 16) (q := 1) hc (not_yet (j := 5) (q := 0) hc (not_yet (j := 4) (q := 0) hc (not_yet (j := 3) (q := 0) hc hk rfl rfl rfl rfl) rfl rfl rfl rfl) rfl rfl rfl rfl) rfl rfl rfl rfl)
          refine eq_H (H' := [.vec z16α (T_deque_Cell_rep) z16.2.span.was.cells, .obj true z9 z10 (.dat (T_window_Since_repo z16α)) z16.2, .gone]) (by first | exact hB z18α S false e16 | (have q := hB z18α S false e16; simp only [cond_true, cond_false] at q; exact q)) ?_
          refine o_move rfl rfl guard_none (look_o rfl rfl) (fun _ => rfl) ?_
          apply h_endA (α := z18α) z18α
          · exact (.same (.same (.same (.same (.same (.same (.same (.same (.same (.same (.same (.same (.same (.same (.same (.same (.same (.same (.same (.same (.same (.same (.same (.same (.same .nil)))))))))))))))))))))))))
          · exact rfl
          · exact rfl
          · exact rfl
          · exact hB z18α (fun k => S k || Nat.beq k 1) false (or_f e16 rfl)
        · intro z18α S hc hk hp
          have e16 : S 16 = false := (not_yet (j := 16) (q := 1) hc (not_yet (j := 5) (q := 0) hc (not_yet (j := 4) (q := 0) hc (not_yet (j := 3) (q := 1) hc hk rfl rfl rfl rfl) rfl rfl rfl rfl) rfl rfl rfl rfl) rfl rfl rfl rfl)
          refine eq_H (H' := [.vec z16α (T_deque_Cell_rep) z16.2.span.was.cells, .obj true z9 z10 (.dat (T_window_Since_repo z16α)) z16.2, .gone]) (by first | exact hB z18α S false e16 | (have q := hB z18α S false e16; simp only [cond_true, cond_false] at q; exact q)) ?_
          refine o_move rfl rfl guard_none (look_o rfl rfl) (fun _ => rfl) ?_
          apply h_endA (α := z18α) z18α
          · exact (.same (.same (.same (.same (.same (.same (.same (.same (.same (.same (.same (.same (.same (.same (.same (.same (.same (.same (.same (.same (.same (.same (.same (.same (.same .nil)))))))))))))))))))))))))
          · exact rfl
          · exact rfl
          · exact rfl
          · exact hB z18α (fun k => S k || Nat.beq k 2) false (or_f e16 rfl)
        · intro z18α S hc hk hp
          have e16 : S 16 = false := (not_yet (j := 16) (q := 1) hc (not_yet (j := 5) (q := 0) hc (not_yet (j := 4) (q := 0) hc hk rfl rfl rfl rfl) rfl rfl rfl rfl) rfl rfl rfl rfl)
          refine eq_H (H' := [.vec z16α (T_deque_Cell_rep) z16.2.span.was.cells, .obj true z9 z10 (.dat (T_window_Since_repo z16α)) z16.2, .gone]) (by first | exact hB z18α S false e16 | (have q := hB z18α S false e16; simp only [cond_true, cond_false] at q; exact q)) ?_
          refine o_from (bind_eqO h_z19) ?_
          refine o_iaddr Try.underlying55 type67 rfl rfl (look_d rfl rfl (pr hp 0 rfl rfl)) (look_d rfl rfl (pr hp 1 rfl rfl)) rfl rfl (o_eqO ?_)
          apply h_endA (α := z18α) z18α
          · exact (.same (.same (.same (.same (.same (.same (.same (.same (.same (.same (.same (.same (.same (.same (.same (.same (.same (.same (.same (.same (.same (.same (.same (.same (.same .nil)))))))))))))))))))))))))
          · exact rfl
          · exact rfl
          · exact rfl
          · exact hB z18α (fun k => S k || Nat.beq k 3) false (or_f e16 rfl)
        · intro z18α S hc hk hp
          have e16 : S 16 = false := (not_yet (j := 16) (q := 1) hc (not_yet (j := 5) (q := 0) hc hk rfl rfl rfl rfl) rfl rfl rfl rfl)
          refine eq_H (H' := [.vec z16α (T_deque_Cell_rep) z16.2.span.was.cells, .obj true z9 z10 (.dat (T_window_Since_repo z16α)) z16.2, .gone]) (by first | exact hB z18α S false e16 | (have q := hB z18α S false e16; simp only [cond_true, cond_false] at q; exact q)) ?_
          refine o_fptr field67_0 type2 (by decide) T_law16_Step_foc0 rfl rfl guard_none (look_d rfl rfl (pr hp 0 rfl rfl)) (fun _ => rfl) ?_
          apply h_endA (α := z18α) z18α
          · exact (.same (.same (.same (.same (.same (.same (.same (.same (.same (.same (.same (.same (.same (.same (.same (.same (.same (.same (.same (.same (.same (.same (.same (.same (.same .nil)))))))))))))))))))))))))
          · exact rfl
          · exact rfl
          · exact rfl
          · exact hB z18α (fun k => S k || Nat.beq k 4) false (or_f e16 rfl)
        · intro z18α S hc hk hp
          have e16 : S 16 = false := (not_yet (j := 16) (q := 1) hc hk rfl rfl rfl rfl)
          refine eq_H (H' := [.vec z16α (T_deque_Cell_rep) z16.2.span.was.cells, .obj true z9 z10 (.dat (T_window_Since_repo z16α)) z16.2, .gone]) (by first | exact hB z18α S false e16 | (have q := hB z18α S false e16; simp only [cond_true, cond_false] at q; exact q)) ?_
          refine o_load type2 rfl rfl guard_none (look_d rfl rfl (pr hp 0 rfl rfl)) (fun _ => rfl) ?_
          apply h_endA (α := z18α) z18α
          · exact (.same (.same (.same (.same (.same (.same (.same (.same (.same (.same (.same (.same (.same (.same (.same (.same (.same (.same (.same (.same (.same (.same (.same (.same (.same .nil)))))))))))))))))))))))))
          · exact rfl
          · exact rfl
          · exact rfl
          · exact hB z18α (fun k => S k || Nat.beq k 5) false (or_f e16 rfl)
        · intro z18α S hc hk hp
          have e16 : S 16 = false := (not_yet (j := 16) (q := 2) hc (not_yet (j := 10) (q := 0) hc (not_yet (j := 9) (q := 0) hc (not_yet (j := 8) (q := 0) hc hk rfl rfl rfl rfl) rfl rfl rfl rfl) rfl rfl rfl rfl) rfl rfl rfl rfl)
          refine eq_H (H' := [.vec z16α (T_deque_Cell_rep) z16.2.span.was.cells, .obj true z9 z10 (.dat (T_window_Since_repo z16α)) z16.2, .gone]) (by first | exact hB z18α S false e16 | (have q := hB z18α S false e16; simp only [cond_true, cond_false] at q; exact q)) ?_
          refine o_move rfl rfl guard_none (look_o rfl rfl) (fun _ => rfl) ?_
          apply h_endA (α := z18α) z18α
          · exact (.same (.same (.same (.same (.same (.same (.same (.same (.same (.same (.same (.same (.same (.same (.same (.same (.same (.same (.same (.same (.same (.same (.same (.same (.same .nil)))))))))))))))))))))))))
          · exact rfl
          · exact rfl
          · exact rfl
          · exact hB z18α (fun k => S k || Nat.beq k 6) false (or_f e16 rfl)
        · intro z18α S hc hk hp
          have e16 : S 16 = false := (not_yet (j := 16) (q := 2) hc (not_yet (j := 10) (q := 0) hc (not_yet (j := 9) (q := 0) hc (not_yet (j := 8) (q := 1) hc hk rfl rfl rfl rfl) rfl rfl rfl rfl) rfl rfl rfl rfl) rfl rfl rfl rfl)
          refine eq_H (H' := [.vec z16α (T_deque_Cell_rep) z16.2.span.was.cells, .obj true z9 z10 (.dat (T_window_Since_repo z16α)) z16.2, .gone]) (by first | exact hB z18α S false e16 | (have q := hB z18α S false e16; simp only [cond_true, cond_false] at q; exact q)) ?_
          refine o_move rfl rfl guard_none (look_o rfl rfl) (fun _ => rfl) ?_
          apply h_endA (α := z18α) z18α
          · exact (.same (.same (.same (.same (.same (.same (.same (.same (.same (.same (.same (.same (.same (.same (.same (.same (.same (.same (.same (.same (.same (.same (.same (.same (.same .nil)))))))))))))))))))))))))
          · exact rfl
          · exact rfl
          · exact rfl
          · exact hB z18α (fun k => S k || Nat.beq k 7) false (or_f e16 rfl)
        · intro z18α S hc hk hp
          have e16 : S 16 = false := (not_yet (j := 16) (q := 2) hc (not_yet (j := 10) (q := 0) hc (not_yet (j := 9) (q := 0) hc hk rfl rfl rfl rfl) rfl rfl rfl rfl) rfl rfl rfl rfl)
          refine eq_H (H' := [.vec z16α (T_deque_Cell_rep) z16.2.span.was.cells, .obj true z9 z10 (.dat (T_window_Since_repo z16α)) z16.2, .gone]) (by first | exact hB z18α S false e16 | (have q := hB z18α S false e16; simp only [cond_true, cond_false] at q; exact q)) ?_
          refine o_from (bind_eqO h_z20) ?_
          refine o_iaddr Try.underlying55 type67 rfl rfl (look_d rfl rfl (pr hp 0 rfl rfl)) (look_d rfl rfl (pr hp 1 rfl rfl)) rfl rfl (o_eqO ?_)
          apply h_endA (α := z18α) z18α
          · exact (.same (.same (.same (.same (.same (.same (.same (.same (.same (.same (.same (.same (.same (.same (.same (.same (.same (.same (.same (.same (.same (.same (.same (.same (.same .nil)))))))))))))))))))))))))
          · exact rfl
          · exact rfl
          · exact rfl
          · exact hB z18α (fun k => S k || Nat.beq k 8) false (or_f e16 rfl)
        · intro z18α S hc hk hp
          have e16 : S 16 = false := (not_yet (j := 16) (q := 2) hc (not_yet (j := 10) (q := 0) hc hk rfl rfl rfl rfl) rfl rfl rfl rfl)
          refine eq_H (H' := [.vec z16α (T_deque_Cell_rep) z16.2.span.was.cells, .obj true z9 z10 (.dat (T_window_Since_repo z16α)) z16.2, .gone]) (by first | exact hB z18α S false e16 | (have q := hB z18α S false e16; simp only [cond_true, cond_false] at q; exact q)) ?_
          refine o_fptr field67_1 type4 (by decide) T_law16_Step_foc1 rfl rfl guard_none (look_d rfl rfl (pr hp 0 rfl rfl)) (fun _ => rfl) ?_
          apply h_endA (α := z18α) z18α
          · exact (.same (.same (.same (.same (.same (.same (.same (.same (.same (.same (.same (.same (.same (.same (.same (.same (.same (.same (.same (.same (.same (.same (.same (.same (.same .nil)))))))))))))))))))))))))
          · exact rfl
          · exact rfl
          · exact rfl
          · exact hB z18α (fun k => S k || Nat.beq k 9) false (or_f e16 rfl)
        · intro z18α S hc hk hp
          have e16 : S 16 = false := (not_yet (j := 16) (q := 2) hc hk rfl rfl rfl rfl)
          refine eq_H (H' := [.vec z16α (T_deque_Cell_rep) z16.2.span.was.cells, .obj true z9 z10 (.dat (T_window_Since_repo z16α)) z16.2, .gone]) (by first | exact hB z18α S false e16 | (have q := hB z18α S false e16; simp only [cond_true, cond_false] at q; exact q)) ?_
          refine o_load type4 rfl rfl guard_none (look_d rfl rfl (pr hp 0 rfl rfl)) (fun _ => rfl) ?_
          apply h_endA (α := z18α) z18α
          · exact (.same (.same (.same (.same (.same (.same (.same (.same (.same (.same (.same (.same (.same (.same (.same (.same (.same (.same (.same (.same (.same (.same (.same (.same (.same .nil)))))))))))))))))))))))))
          · exact rfl
          · exact rfl
          · exact rfl
          · exact hB z18α (fun k => S k || Nat.beq k 10) false (or_f e16 rfl)
        · intro z18α S hc hk hp
          have e16 : S 16 = false := (not_yet (j := 16) (q := 3) hc (not_yet (j := 15) (q := 0) hc (not_yet (j := 14) (q := 0) hc (not_yet (j := 13) (q := 0) hc hk rfl rfl rfl rfl) rfl rfl rfl rfl) rfl rfl rfl rfl) rfl rfl rfl rfl)
          refine eq_H (H' := [.vec z16α (T_deque_Cell_rep) z16.2.span.was.cells, .obj true z9 z10 (.dat (T_window_Since_repo z16α)) z16.2, .gone]) (by first | exact hB z18α S false e16 | (have q := hB z18α S false e16; simp only [cond_true, cond_false] at q; exact q)) ?_
          refine o_move rfl rfl guard_none (look_o rfl rfl) (fun _ => rfl) ?_
          apply h_endA (α := z18α) z18α
          · exact (.same (.same (.same (.same (.same (.same (.same (.same (.same (.same (.same (.same (.same (.same (.same (.same (.same (.same (.same (.same (.same (.same (.same (.same (.same .nil)))))))))))))))))))))))))
          · exact rfl
          · exact rfl
          · exact rfl
          · exact hB z18α (fun k => S k || Nat.beq k 11) false (or_f e16 rfl)
        · intro z18α S hc hk hp
          have e16 : S 16 = false := (not_yet (j := 16) (q := 3) hc (not_yet (j := 15) (q := 0) hc (not_yet (j := 14) (q := 0) hc (not_yet (j := 13) (q := 1) hc hk rfl rfl rfl rfl) rfl rfl rfl rfl) rfl rfl rfl rfl) rfl rfl rfl rfl)
          refine eq_H (H' := [.vec z16α (T_deque_Cell_rep) z16.2.span.was.cells, .obj true z9 z10 (.dat (T_window_Since_repo z16α)) z16.2, .gone]) (by first | exact hB z18α S false e16 | (have q := hB z18α S false e16; simp only [cond_true, cond_false] at q; exact q)) ?_
          refine o_move rfl rfl guard_none (look_o rfl rfl) (fun _ => rfl) ?_
          apply h_endA (α := z18α) z18α
          · exact (.same (.same (.same (.same (.same (.same (.same (.same (.same (.same (.same (.same (.same (.same (.same (.same (.same (.same (.same (.same (.same (.same (.same (.same (.same .nil)))))))))))))))))))))))))
          · exact rfl
          · exact rfl
          · exact rfl
          · exact hB z18α (fun k => S k || Nat.beq k 12) false (or_f e16 rfl)
        · intro z18α S hc hk hp
          have e16 : S 16 = false := (not_yet (j := 16) (q := 3) hc (not_yet (j := 15) (q := 0) hc (not_yet (j := 14) (q := 0) hc hk rfl rfl rfl rfl) rfl rfl rfl rfl) rfl rfl rfl rfl)
          refine eq_H (H' := [.vec z16α (T_deque_Cell_rep) z16.2.span.was.cells, .obj true z9 z10 (.dat (T_window_Since_repo z16α)) z16.2, .gone]) (by first | exact hB z18α S false e16 | (have q := hB z18α S false e16; simp only [cond_true, cond_false] at q; exact q)) ?_
          refine o_from (bind_eqO h_z21) ?_
          refine o_iaddr Try.underlying55 type67 rfl rfl (look_d rfl rfl (pr hp 0 rfl rfl)) (look_d rfl rfl (pr hp 1 rfl rfl)) rfl rfl (o_eqO ?_)
          apply h_endA (α := z18α) z18α
          · exact (.same (.same (.same (.same (.same (.same (.same (.same (.same (.same (.same (.same (.same (.same (.same (.same (.same (.same (.same (.same (.same (.same (.same (.same (.same .nil)))))))))))))))))))))))))
          · exact rfl
          · exact rfl
          · exact rfl
          · exact hB z18α (fun k => S k || Nat.beq k 13) false (or_f e16 rfl)
        · intro z18α S hc hk hp
          have e16 : S 16 = false := (not_yet (j := 16) (q := 3) hc (not_yet (j := 15) (q := 0) hc hk rfl rfl rfl rfl) rfl rfl rfl rfl)
          refine eq_H (H' := [.vec z16α (T_deque_Cell_rep) z16.2.span.was.cells, .obj true z9 z10 (.dat (T_window_Since_repo z16α)) z16.2, .gone]) (by first | exact hB z18α S false e16 | (have q := hB z18α S false e16; simp only [cond_true, cond_false] at q; exact q)) ?_
          refine o_fptr field67_2 type4 (by decide) T_law16_Step_foc2 rfl rfl guard_none (look_d rfl rfl (pr hp 0 rfl rfl)) (fun _ => rfl) ?_
          apply h_endA (α := z18α) z18α
          · exact (.same (.same (.same (.same (.same (.same (.same (.same (.same (.same (.same (.same (.same (.same (.same (.same (.same (.same (.same (.same (.same (.same (.same (.same (.same .nil)))))))))))))))))))))))))
          · exact rfl
          · exact rfl
          · exact rfl
          · exact hB z18α (fun k => S k || Nat.beq k 14) false (or_f e16 rfl)
        · intro z18α S hc hk hp
          have e16 : S 16 = false := (not_yet (j := 16) (q := 3) hc hk rfl rfl rfl rfl)
          refine eq_H (H' := [.vec z16α (T_deque_Cell_rep) z16.2.span.was.cells, .obj true z9 z10 (.dat (T_window_Since_repo z16α)) z16.2, .gone]) (by first | exact hB z18α S false e16 | (have q := hB z18α S false e16; simp only [cond_true, cond_false] at q; exact q)) ?_
          refine o_load type4 rfl rfl guard_none (look_d rfl rfl (pr hp 0 rfl rfl)) (fun _ => rfl) ?_
          apply h_endA (α := z18α) z18α
          · exact (.same (.same (.same (.same (.same (.same (.same (.same (.same (.same (.same (.same (.same (.same (.same (.same (.same (.same (.same (.same (.same (.same (.same (.same (.same .nil)))))))))))))))))))))))))
          · exact rfl
          · exact rfl
          · exact rfl
          · exact hB z18α (fun k => S k || Nat.beq k 15) false (or_f e16 rfl)
        · intro z18α S hc hk hp
          refine eq_H (H' := [.vec z16α (T_deque_Cell_rep) z16.2.span.was.cells, .obj true z9 z10 (.dat (T_window_Since_repo z16α)) z16.2, .gone]) (by first | exact hB z18α S false hk | (have q := hB z18α S false hk; simp only [cond_true, cond_false] at q; exact q)) ?_
          refine o_from (bind_eqO h_z22) ?_
          refine o_weak (H' := [.vec z16α (T_deque_Cell_rep) z16.2.span.was.cells, .obj true z9 z10 (.dat (T_window_Since_repo z16α)) z16.2] ++ ([] ++ [.gone])) (sub_pick [0, 1, 2] rfl rfl) ?_
          refine o_callU rfl rfl rfl rfl rfl callable37 (looks_cons (look_d rfl rfl (pr hp 0 rfl rfl)) (fun _ => rfl) (looks_cons (look_d rfl rfl (pr hp 1 rfl rfl)) (fun _ => rfl) (looks_cons (look_d rfl rfl (pr hp 2 rfl rfl)) (fun _ => rfl) (looks_cons (look_d rfl rfl (pr hp 3 rfl rfl)) (fun _ => rfl) (looks_nil))))) .nil (window_Since_Step_ok _ _ _ z16.2 z19.At z20.F z21.G) (fun _ _ => (wr_v (wr_c wr_n))) (fun z23α => o_eqOH ?_)
          refine o_weak (H' := [.vec z23α (T_deque_Cell_rep) z22.2.span.was.cells, .obj true z9 z10 (.dat (T_window_Since_repo z23α)) z22.2, .gone]) (sub_pick [0, 1, 2] rfl rfl) ?_
          refine o_weak sub_gone ?_
          refine o_weak (H' := [.gone, .obj true z9 z10 (.dat (T_window_Since_repo z23α)) z22.2, .vec z23α (T_deque_Cell_rep) z22.2.span.was.cells]) (sub_pick [0, 2, 1] rfl rfl) ?_
          apply h_endA (α := z18α) z23α
          · exact (.same (.same (.same (.same (.same (.same (.same (.same (.same (.same (.same (.same (.same (.same (.same (.same (.same (.same (.same (.same (.same (.same (.same (.same (.same .nil)))))))))))))))))))))))))
          · exact rfl
          · exact rfl
          · exact rfl
          · exact hB z23α (fun k => S k || Nat.beq k 16) true (or_i rfl)
        · intro z18α S hc hk hp
          refine eq_H (H' := [(cond (S 16) (.gone) (.vec z16α (T_deque_Cell_rep) z16.2.span.was.cells)), (cond (S 16) (.obj true z9 z10 (.dat (T_window_Since_repo z18α)) z22.2) (.obj true z9 z10 (.dat (T_window_Since_repo z16α)) z16.2)), (cond (S 16) (.vec (z18α) (T_deque_Cell_rep) z22.2.span.was.cells) (.gone))]) (by first | exact hB z18α S (S 16) rfl | (have q := hB z18α S (S 16) rfl; simp only [cond_true, cond_false] at q; exact q)) ?_
          refine o_move rfl rfl guard_none (look_o rfl rfl) (fun _ => rfl) ?_
          apply h_endA (α := z18α) z18α
          · exact (.same (.same (.same (.same (.same (.same (.same (.same (.same (.same (.same (.same (.same (.same (.same (.same (.same (.same (.same (.same (.same (.same (.same (.same (.same .nil)))))))))))))))))))))))))
          · exact rfl
          · exact rfl
          · exact rfl
          · exact hB z18α (fun k => S k || Nat.beq k 17) (S 16) (or_ne rfl)
        · intro z18α S hc hk hp
          have e16 : S 16 = true := (pr hp 0 rfl rfl)
          refine eq_H (H' := [.gone, .obj true z9 z10 (.dat (T_window_Since_repo z18α)) z22.2, .vec (z18α) (T_deque_Cell_rep) z22.2.span.was.cells]) (by first | exact hB z18α S true e16 | (have q := hB z18α S true e16; simp only [cond_true, cond_false] at q; exact q)) ?_
          refine o_bneq Try.underlying4 rfl rfl guard_none (look_d rfl rfl (pr hp 0 rfl rfl)) (look_d rfl rfl (pr hp 1 rfl rfl)) (fun _ => rfl) (fun _ => rfl) ?_
          apply h_endA (α := z18α) z18α
          · exact (.same (.same (.same (.same (.same (.same (.same (.same (.same (.same (.same (.same (.same (.same (.same (.same (.same (.same (.same (.same (.same (.same (.same (.same (.same .nil)))))))))))))))))))))))))
          · exact rfl
          · exact rfl
          · exact rfl
          · exact hB z18α (fun k => S k || Nat.beq k 18) true (or_t e16)
        · intro z18α S hc hk hp
          have e16 : S 16 = true := (pr hp 1 rfl rfl)
          refine eq_H (H' := [.gone, .obj true z9 z10 (.dat (T_window_Since_repo z18α)) z22.2, .vec (z18α) (T_deque_Cell_rep) z22.2.span.was.cells]) (by first | exact hB z18α S true e16 | (have q := hB z18α S true e16; simp only [cond_true, cond_false] at q; exact q)) ?_
          refine o_move rfl rfl guard_none (look_d rfl rfl (pr hp 0 rfl rfl)) (fun _ => rfl) ?_
          apply h_endA (α := z18α) z18α
          · exact (.same (.same (.same (.same (.same (.same (.same (.same (.same (.same (.same (.same (.same (.same (.same (.same (.same (.same (.same (.same (.same (.same (.same (.same (.same .nil)))))))))))))))))))))))))
          · exact rfl
          · exact rfl
          · exact rfl
          · exact hB z18α (fun k => S k || Nat.beq k 19) true (or_t e16)
        · intro z18α S hc hk hp
          have e16 : S 16 = true := (pr (hc 19 _ rfl (pr hp 0 rfl rfl)) 1 rfl rfl)
          refine eq_H (H' := [.gone, .obj true z9 z10 (.dat (T_window_Since_repo z18α)) z22.2, .vec (z18α) (T_deque_Cell_rep) z22.2.span.was.cells]) (by first | exact hB z18α S true e16 | (have q := hB z18α S true e16; simp only [cond_true, cond_false] at q; exact q)) ?_
          refine o_move rfl rfl (guard_d rfl rfl rfl rfl (pr hp 0 rfl rfl)) (look_o rfl rfl) (fun _ => rfl) ?_
          apply h_endA (α := z18α) z18α
          · exact (.same (.same (.same (.same (.same (.same (.same (.same (.same (.same (.same (.same (.same (.same (.same (.same (.same (.same (.same (.same (.same (.same (.same (.same (.same .nil)))))))))))))))))))))))))
          · exact rfl
          · exact rfl
          · exact rfl
          · exact hB z18α (fun k => S k || Nat.beq k 20) true (or_t e16)
        · intro z18α S hc hk hp
          have e16 : S 16 = true := (pr (hc 19 _ rfl (pr hp 1 rfl rfl)) 1 rfl rfl)
          refine eq_H (H' := [.gone, .obj true z9 z10 (.dat (T_window_Since_repo z18α)) z22.2, .vec (z18α) (T_deque_Cell_rep) z22.2.span.was.cells]) (by first | exact hB z18α S true e16 | (have q := hB z18α S true e16; simp only [cond_true, cond_false] at q; exact q)) ?_
          refine o_from (bind_eqO h_z24) ?_
          refine o_weak (H' := [] ++ ([.vec (z18α) (T_deque_Cell_rep) z22.2.span.was.cells, .obj true z9 z10 (.dat (T_window_Since_repo z18α)) z22.2] ++ [.gone])) (sub_pick [2, 1, 0] rfl rfl) ?_
          refine o_callX (its := []) (0 : Int) () rfl rfl rfl rfl (guard_d rfl rfl rfl rfl (pr hp 1 rfl rfl)) callable38 (looks_cons (look_d rfl rfl (pr hp 0 rfl rfl)) (fun h => h) (looks_nil)) (.vec (.cons .nil)) (window_Since_Cells_ok _ _ _ z22.2) (fun _ _ => wr_n) ?_ (fun z25α => o_eqOH ?_)
          · exact fun _ => rfl
          refine o_weak (H' := [.vec (z18α) (T_deque_Cell_rep) z22.2.span.was.cells, .obj true z9 z10 (.dat (T_window_Since_repo z18α)) z22.2, .gone]) (sub_pick [0, 1, 2] rfl rfl) ?_
          refine o_weak (H' := [.gone, .obj true z9 z10 (.dat (T_window_Since_repo z18α)) z22.2, .vec (z18α) (T_deque_Cell_rep) z22.2.span.was.cells]) (sub_pick [2, 1, 0] rfl rfl) ?_
          apply h_endA (α := z18α) z18α
          · exact (.same (.same (.same (.same (.same (.same (.same (.same (.same (.same (.same (.same (.same (.same (.same (.same (.same (.same (.same (.same (.same (.same (.same (.same (.same .nil)))))))))))))))))))))))))
          · exact rfl
          · exact rfl
          · exact rfl
          · exact hB z18α (fun k => S k || Nat.beq k 21) true (or_t e16)
        · intro z18α S hc hk hp
          have e16 : S 16 = true := (pr (hc 19 _ rfl (pr hp 0 rfl rfl)) 1 rfl rfl)
          refine eq_H (H' := [.gone, .obj true z9 z10 (.dat (T_window_Since_repo z18α)) z22.2, .vec (z18α) (T_deque_Cell_rep) z22.2.span.was.cells]) (by first | exact hB z18α S true e16 | (have q := hB z18α S true e16; simp only [cond_true, cond_false] at q; exact q)) ?_
          refine o_move rfl rfl (guard_d rfl rfl rfl rfl (pr hp 0 rfl rfl)) (look_o rfl rfl) (fun _ => rfl) ?_
          apply h_endA (α := z18α) z18α
          · exact (.same (.same (.same (.same (.same (.same (.same (.same (.same (.same (.same (.same (.same (.same (.same (.same (.same (.same (.same (.same (.same (.same (.same (.same (.same .nil)))))))))))))))))))))))))
          · exact rfl
          · exact rfl
          · exact rfl
          · exact hB z18α (fun k => S k || Nat.beq k 22) true (or_t e16)
        · intro z18α S hc hk hp
          have e16 : S 16 = true := (pr (hc 19 _ rfl (pr hp 2 rfl rfl)) 1 rfl rfl)
          refine eq_H (H' := [.gone, .obj true z9 z10 (.dat (T_window_Since_repo z18α)) z22.2, .vec (z18α) (T_deque_Cell_rep) z22.2.span.was.cells]) (by first | exact hB z18α S true e16 | (have q := hB z18α S true e16; simp only [cond_true, cond_false] at q; exact q)) ?_
          refine o_neq rfl rfl (guard_d rfl rfl rfl rfl (pr hp 2 rfl rfl)) (look_d rfl rfl (pr hp 0 rfl rfl)) (look_d rfl rfl (pr hp 1 rfl rfl)) (fun h => h) (fun h => h) ?_
          apply h_endA (α := z18α) z18α
          · exact (.same (.same (.same (.same (.same (.same (.same (.same (.same (.same (.same (.same (.same (.same (.same (.same (.same (.same (.same (.same (.same (.same (.same (.same (.same .nil)))))))))))))))))))))))))
          · exact rfl
          · exact rfl
          · exact rfl
          · exact hB z18α (fun k => S k || Nat.beq k 23) true (or_t e16)
        · intro z18α S hc hk hp
          have e16 : S 16 = true := (pr (hc 19 _ rfl (pr hp 0 rfl rfl)) 1 rfl rfl)
          refine eq_H (H' := [.gone, .obj true z9 z10 (.dat (T_window_Since_repo z18α)) z22.2, .vec (z18α) (T_deque_Cell_rep) z22.2.span.was.cells]) (by first | exact hB z18α S true e16 | (have q := hB z18α S true e16; simp only [cond_true, cond_false] at q; exact q)) ?_
          refine o_pick rfl rfl guard_none (look_d rfl rfl (pr hp 0 rfl rfl)) look_bool (look_d rfl rfl (pr hp 1 rfl rfl)) (fun _ => rfl) (fun _ _ => rfl) (fun h1 h2 => pick_f ((fun _ => rfl) h1) h2) ?_
          apply h_endA (α := z18α) z18α
          · exact (.same (.same (.same (.same (.same (.same (.same (.same (.same (.same (.same (.same (.same (.same (.same (.same (.same (.same (.same (.same (.same (.same (.same (.same (.same .nil)))))))))))))))))))))))))
          · exact rfl
          · exact rfl
          · exact rfl
          · exact hB z18α (fun k => S k || Nat.beq k 24) true (or_t e16)
        refine den_weak (H' := [.obj true z9 z10 (.dat (T_window_Since_repo z18α)) z22.2, .vec z18α (T_deque_Cell_rep) z22.2.span.was.cells]) (sub_pick [1, 2] rfl rfl) ?_
        refine den_cond (look_tmp rfl) ?_ ?_
        · refine den_seq ?_
          refine den_region rfl ?_
          refine o_assign rfl rfl guard_none look_bool (fun _ => rfl) ?_
          refine o_end ?_
          refine den_code_ret ?_
          refine dene_ret ?_
          refine dene_loopA (by simp) ?_
          refine dene_ret ?_
          refine dene_bothA (by simp) ?_
          refine dene_ret ?_
          exact dene_res (res1 rfl (rv_tmp rfl))
        · refine den_skip ?_
          refine den_blkend ?_
          refine den_region rfl ?_
          refine o_move rfl rfl guard_none (look_tmp rfl) (fun _ => rfl) ?_
          refine o_add rfl rfl guard_none (look_tmp rfl) (look_int rfl) (fun _ => rfl) (fun _ => rfl) ?_
          refine o_assign rfl rfl guard_none (look_tmp rfl) (fun _ => rfl) ?_
          refine o_end ?_
          refine den_nextA z18α ((Sub.trans (sub_pick [1, 0] rfl rfl) (sub_env (sube_cons rfl (sube_cons rfl (sube_cons rfl (sube_cons rfl (sube_cons rfl (sube_cons rfl (sube_nil))))))))))
      · refine den_code_exit ?_
        refine dene_out rfl ?_
        refine dene_loopA (by simp) ?_
        refine dene_to rfl ?_
        refine den_endlA z16α ((sub_env (sube_cons rfl (sube_cons rfl (sube_nil)))))
    refine den_seq ?_
    refine den_region rfl ?_
    refine o_move rfl rfl guard_none (look_tmp rfl) (fun _ => rfl) ?_
    refine o_llen Try.underlying55 rfl rfl guard_none (look_tmp rfl) (fun _ => rfl) ?_
    refine o_gtr rfl rfl guard_none (look_tmp rfl) (look_int rfl) (fun _ => rfl) (fun _ => rfl) ?_
    refine o_move rfl rfl guard_none (look_tmp rfl) (fun _ => rfl) ?_
    refine o_move rfl rfl (guard_some rfl rfl rfl) (look_tmp rfl) (fun _ => rfl) ?_
    refine o_weak (H' := [] ++ ([.vec z12α (T_deque_Cell_rep) z12.span.was.cells, .obj true z9 z10 (.dat (T_window_Since_repo z12α)) z12] ++ [])) (sub_pick [0, 1] rfl rfl) ?_
    refine o_callX (its := []) (0 : Int) () rfl rfl rfl rfl (guard_some rfl rfl rfl) callable38 (looks_cons (look_tmp rfl) (fun h => h) (looks_nil)) (.vec (.cons .nil)) (window_Since_Cells_ok _ _ _ z12) (fun _ _ => wr_n) ?_ (fun z14α z13 => ?_)
    · exact fun _ => rfl
    refine o_weak (H' := [.vec z12α (T_deque_Cell_rep) z12.span.was.cells, .obj true z9 z10 (.dat (T_window_Since_repo z12α)) z12]) (sub_pick [0, 1] rfl rfl) ?_
    refine o_eql rfl rfl (guard_some rfl rfl rfl) (look_tmp rfl) (look_int rfl) (fun h => h) (fun _ => rfl) ?_
    refine o_pick rfl rfl guard_none (look_tmp rfl) look_bool (look_tmp rfl) (fun _ => rfl) (fun _ _ => rfl) (fun h1 h2 => pick_f ((fun _ => rfl) h1) h2) ?_
    refine o_assign rfl rfl guard_none (look_tmp rfl) (fun _ => rfl) ?_
    refine o_lt (fun z15 => ?_)
    refine o_end ?_
    refine den_code_ret ?_
    exact dene_res (res1 rfl (rv_tmp rfl))

theorem law16_WindowAlike_ok  (lo_0 : Int) (hi_1 : Int) (more_2 : Int) (l_3 : (List T_law16_Step)) : FunOk Try.prog 12 [⟨Rep.int .i64, lo_0, true⟩, ⟨Rep.int .i64, hi_1, true⟩, ⟨Rep.int .i64, more_2, true⟩, ⟨(T_law16_Step_rep).slice, l_3, true⟩] (law16_WindowAlike lo_0 hi_1 more_2 l_3) (Rep.bool) := by
  refine fun_ok Try.func12 rfl Try.ntmps12 rfl (all_cons rfl (all_cons rfl (all_cons rfl (all_cons rfl all_nil)))) (fun w0 ok0 => ?_)
  refine den_seq ?_
  refine den_region rfl ?_
  refine o_assign rfl rfl guard_none look_bool (fun _ => rfl) ?_
  refine o_end ?_
  refine den_seq ?_
  refine den_seq ?_
  refine den_region rfl ?_
  refine o_call rfl rfl rfl callable28 (looks_nil) (law16_alive_ok) (fun z1 => ?_)
  refine o_not rfl rfl guard_none (look_tmp rfl) (fun _ => rfl) ?_
  refine o_end ?_
  refine den_cond (look_tmp rfl) ?_ ?_
  · refine den_seq ?_
    refine den_region rfl ?_
    refine o_assign rfl rfl guard_none look_bool (fun _ => rfl) ?_
    refine o_end ?_
    refine den_code_ret ?_
    refine dene_ret ?_
    exact dene_res (res1 rfl (rv_tmp rfl))
  · refine den_skip ?_
    refine den_seq ?_
    refine den_region rfl ?_
    refine o_move rfl rfl guard_none (look_tmp rfl) (fun _ => rfl) ?_
    refine o_call rfl rfl rfl callable29 (looks_cons (look_tmp rfl) (fun _ => rfl) (looks_nil)) (law16_few_ok _) (fun z2 => ?_)
    refine o_assign rfl rfl guard_none (look_tmp rfl) (fun _ => rfl) ?_
    refine o_end ?_
    refine den_seq ?_
    refine den_region rfl ?_
    refine o_move rfl rfl guard_none (look_tmp rfl) (fun _ => rfl) ?_
    refine o_move rfl rfl guard_none (look_tmp rfl) (fun _ => rfl) ?_
    refine o_weak (H' := [] ++ ([] ++ [])) (sub_pick [] rfl rfl) ?_
    refine o_callU rfl rfl rfl rfl rfl callable32 (looks_cons (look_tmp rfl) (fun _ => rfl) (looks_cons (look_tmp rfl) (fun _ => rfl) (looks_nil))) .nil (window_NewOnce_ok lo_0 hi_1) (fun _ _ => (wr_v (wr_c wr_n))) (fun z4α z3 => ?_)
    obtain ⟨⟨z5, z6⟩, z7⟩ := z4α
    refine o_weak (H' := [.vec z7 (T_deque_Cell_rep) z3.span.was.cells, .obj true z5 z6 (.dat (T_window_Once_repo z7)) z3]) (sub_pick [0, 1] rfl rfl) ?_
    refine o_move rfl rfl guard_none (look_tmp rfl) (fun _ => rfl) ?_
    refine o_move rfl rfl guard_none (look_tmp rfl) (fun _ => rfl) ?_
    refine o_weak (H' := [] ++ ([] ++ [.vec z7 (T_deque_Cell_rep) z3.span.was.cells, .obj true z5 z6 (.dat (T_window_Once_repo z7)) z3])) (sub_pick [0, 1] rfl rfl) ?_
    refine o_callU rfl rfl rfl rfl rfl callable36 (looks_cons (look_tmp rfl) (fun _ => rfl) (looks_cons (look_tmp rfl) (fun _ => rfl) (looks_nil))) .nil (window_NewSince_ok lo_0 hi_1) (fun _ _ => (wr_v (wr_c wr_n))) (fun z9α z8 => ?_)
    obtain ⟨⟨z10, z11⟩, z12⟩ := z9α
    refine o_weak (H' := [.vec z12 (T_deque_Cell_rep) z8.span.was.cells, .obj true z10 z11 (.dat (T_window_Since_repo z12)) z8, .vec z7 (T_deque_Cell_rep) z3.span.was.cells, .obj true z5 z6 (.dat (T_window_Once_repo z7)) z3]) (sub_pick [0, 1, 2, 3] rfl rfl) ?_
    refine o_assign rfl rfl guard_none (look_tmp rfl) (fun _ => rfl) ?_
    refine o_assign rfl rfl guard_none (look_tmp rfl) (fun _ => rfl) ?_
    refine o_end ?_
    refine den_seq ?_
    refine den_region rfl ?_
    refine o_move rfl rfl guard_none (look_tmp rfl) (fun _ => rfl) ?_
    refine o_move rfl rfl guard_none (look_tmp rfl) (fun _ => rfl) ?_
    refine o_call rfl rfl rfl callable31 (looks_cons (look_tmp rfl) (fun _ => rfl) (looks_cons (look_tmp rfl) (fun _ => rfl) (looks_nil))) (law16_ends_ok _ _) (fun z13 => ?_)
    refine o_move rfl rfl guard_none (look_tmp rfl) (fun _ => rfl) ?_
    refine o_fst rfl rfl guard_none (look_tmp rfl) (fun _ => rfl) ?_
    refine o_snd rfl rfl guard_none (look_tmp rfl) (fun _ => rfl) ?_
    refine o_assign rfl rfl guard_none (look_tmp rfl) (fun _ => rfl) ?_
    refine o_assign rfl rfl guard_none (look_tmp rfl) (fun _ => rfl) ?_
    refine o_end ?_
    refine den_seq ?_
    refine den_region rfl ?_
    refine o_assign rfl rfl guard_none (look_int rfl) (fun _ => rfl) ?_
    refine o_end ?_
    refine den_seq ?_
    refine den_seq ?_
    refine den_region rfl ?_
    refine o_move rfl rfl guard_none (look_tmp rfl) (fun _ => rfl) ?_
    refine o_neq rfl rfl guard_none (look_tmp rfl) (look_int rfl) (fun _ => rfl) (fun _ => rfl) ?_
    refine o_move rfl rfl guard_none (look_tmp rfl) (fun _ => rfl) ?_
    refine o_move rfl rfl (guard_some rfl rfl rfl) (look_tmp rfl) (fun _ => rfl) ?_
    refine o_move rfl rfl (guard_some rfl rfl rfl) (look_tmp rfl) (fun _ => rfl) ?_
    refine o_geq rfl rfl (guard_some rfl rfl rfl) (look_tmp rfl) (look_tmp rfl) (fun h => h) (fun h => h) ?_
    refine o_pick rfl rfl guard_none (look_tmp rfl) (look_tmp rfl) look_bool (fun _ => rfl) (fun h1 h2 => pick_t ((fun _ => rfl) h1) h2) (fun _ _ => rfl) ?_
    refine o_end ?_
    refine den_bind (fun z14 => [(13, ⟨Rep.int .i64, z14, true⟩), (3, ⟨(T_law16_Step_rep).slice, z2, true⟩), (9, ⟨Rep.addr, (z5, z6), true⟩), (10, ⟨Rep.addr, (z10, z11), true⟩), (11, ⟨Rep.int .i64, z13.1, true⟩)]) (fun z14 => [.vec z12 (T_deque_Cell_rep) z8.span.was.cells, .obj true z10 z11 (.dat (T_window_Since_repo z12)) z8, .vec z7 (T_deque_Cell_rep) z3.span.was.cells, .obj true z5 z6 (.dat (T_window_Once_repo z7)) z3]) ?_ (fun z14 => ?_)
    · refine den_cond (look_tmp rfl) ?_ ?_
      · refine den_region rfl ?_
        refine o_move rfl rfl guard_none (look_tmp rfl) (fun _ => rfl) ?_
        refine o_assign rfl rfl guard_none (look_tmp rfl) (fun _ => rfl) ?_
        refine o_end ?_
        refine den_end ((sub_env (sube_cons rfl (sube_cons rfl (sube_cons rfl (sube_cons rfl (sube_cons rfl (sube_nil))))))))
      · refine den_skip ?_
        refine den_end ((sub_env (sube_cons rfl (sube_cons rfl (sube_cons rfl (sube_cons rfl (sube_cons rfl (sube_nil))))))))
    refine den_seq ?_
    refine den_region rfl ?_
    refine o_move rfl rfl guard_none (look_tmp rfl) (fun _ => rfl) ?_
    refine o_move rfl rfl guard_none (look_tmp rfl) (fun _ => rfl) ?_
    refine o_weak (H' := [] ++ ([] ++ [.vec z12 (T_deque_Cell_rep) z8.span.was.cells, .obj true z10 z11 (.dat (T_window_Since_repo z12)) z8, .vec z7 (T_deque_Cell_rep) z3.span.was.cells, .obj true z5 z6 (.dat (T_window_Once_repo z7)) z3])) (sub_pick [0, 1, 2, 3] rfl rfl) ?_
    refine o_callU rfl rfl rfl rfl rfl callable32 (looks_cons (look_tmp rfl) (fun _ => rfl) (looks_cons (look_tmp rfl) (fun _ => rfl) (looks_nil))) .nil (window_NewOnce_ok z13.1 z14) (fun _ _ => (wr_v (wr_c wr_n))) (fun z16α z15 => ?_)
    obtain ⟨⟨z17, z18⟩, z19⟩ := z16α
    refine o_weak (H' := [.vec z19 (T_deque_Cell_rep) z15.span.was.cells, .obj true z17 z18 (.dat (T_window_Once_repo z19)) z15, .vec z12 (T_deque_Cell_rep) z8.span.was.cells, .obj true z10 z11 (.dat (T_window_Since_repo z12)) z8, .vec z7 (T_deque_Cell_rep) z3.span.was.cells, .obj true z5 z6 (.dat (T_window_Once_repo z7)) z3]) (sub_pick [0, 1, 2, 3, 4, 5] rfl rfl) ?_
    refine o_assign rfl rfl guard_none (look_tmp rfl) (fun _ => rfl) ?_
    refine o_end ?_
    refine den_seq ?_
    refine den_seq ?_
    refine den_region rfl ?_
    refine o_assign rfl rfl guard_none (look_int rfl) (fun _ => rfl) ?_
    refine o_end ?_
    refine den_both (fun z20 => []) (fun z20 => []) ?_ (fun z20 => ?_)
    · refine den_block ?_
      refine den_loopA (A := (Value × Value × Value)) (law16_WindowAlike_L1b z2) (fun z21α z21 => [(15, ⟨Rep.int .i64, z21.1, true⟩), (3, ⟨(T_law16_Step_rep).slice, z2, true⟩), (9, ⟨Rep.addr, (z5, z6), true⟩), (10, ⟨Rep.addr, (z10, z11), true⟩), (14, ⟨Rep.addr, (z17, z18), true⟩)]) (fun z21α z21 => [.vec z21α.1 (T_deque_Cell_rep) z21.2.1.span.was.cells, .obj true z17 z18 (.dat (T_window_Once_repo z21α.1)) z21.2.1, .vec z21α.2.1 (T_deque_Cell_rep) z21.2.2.1.span.was.cells, .obj true z10 z11 (.dat (T_window_Since_repo z21α.2.1)) z21.2.2.1, .vec z21α.2.2 (T_deque_Cell_rep) z21.2.2.2.span.was.cells, .obj true z5 z6 (.dat (T_window_Once_repo z21α.2.2)) z21.2.2.2]) (0, z15, z8, z3) (z19, z12, z7) (fun z21α z21 => ?_) ((sub_env (sube_cons rfl (sube_cons rfl (sube_cons rfl (sube_cons rfl (sube_cons rfl (sube_nil))))))))
      refine den_seq ?_
      refine den_seq ?_
      refine den_region rfl ?_
      refine o_move rfl rfl guard_none (look_tmp rfl) (fun _ => rfl) ?_
      refine o_move rfl rfl guard_none (look_tmp rfl) (fun _ => rfl) ?_
      refine o_llen Try.underlying55 rfl rfl guard_none (look_tmp rfl) (fun _ => rfl) ?_
      refine o_lss rfl rfl guard_none (look_tmp rfl) (look_tmp rfl) (fun _ => rfl) (fun _ => rfl) ?_
      refine o_end ?_
      refine den_cond (look_tmp rfl) ?_ ?_
      · refine den_skip ?_
        refine den_seq ?_
        refine den_block ?_
        refine den_seq ?_
        refine den_open (fun z23 h_z23 => ?_)
        refine den_open (fun z24 h_z24 => ?_)
        refine den_open (fun z25 h_z25 => ?_)
        refine den_open (fun z27 h_z27 => ?_)
        refine den_open (fun z28 h_z28 => ?_)
        refine den_open (fun z29 h_z29 => ?_)
        refine den_open (fun z31 h_z31 => ?_)
        refine den_open (fun z32 h_z32 => ?_)
        refine den_open (fun z33 h_z33 => ?_)
        have hB : ∀ (z22α : (Value × Value × Value)) (S : Nat → Bool) (b11 b23 b35 : Bool), S 11 = b11 → S 23 = b23 → S 35 = b35 → (([(cond (S 35) (.gone) (.vec z21α.1 (T_deque_Cell_rep) z21.2.1.span.was.cells)), (cond (S 35) (.obj true z17 z18 (.dat (T_window_Once_repo z22α.2.2)) z33.2) (.obj true z17 z18 (.dat (T_window_Once_repo z21α.1)) z21.2.1)), (cond (S 23) (.gone) (.vec z21α.2.1 (T_deque_Cell_rep) z21.2.2.1.span.was.cells)), (cond (S 23) (.obj true z10 z11 (.dat (T_window_Since_repo z22α.2.1)) z29.2) (.obj true z10 z11 (.dat (T_window_Since_repo z21α.2.1)) z21.2.2.1)), (cond (S 11) (.gone) (.vec z21α.2.2 (T_deque_Cell_rep) z21.2.2.2.span.was.cells)), (cond (S 11) (.obj true z5 z6 (.dat (T_window_Once_repo z22α.1)) z25.2) (.obj true z5 z6 (.dat (T_window_Once_repo z21α.2.2)) z21.2.2.2)), (cond (S 11) (.vec (z22α.1) (T_deque_Cell_rep) z25.2.span.was.cells) (.gone)), (cond (S 23) (.vec (z22α.2.1) (T_deque_Cell_rep) z29.2.span.was.cells) (.gone)), (cond (S 35) (.vec (z22α.2.2) (T_deque_Cell_rep) z33.2.span.was.cells) (.gone))] : List Go.Eng.Item)) = ([(cond b35 (.gone) (.vec z21α.1 (T_deque_Cell_rep) z21.2.1.span.was.cells)), (cond b35 (.obj true z17 z18 (.dat (T_window_Once_repo z22α.2.2)) z33.2) (.obj true z17 z18 (.dat (T_window_Once_repo z21α.1)) z21.2.1)), (cond b23 (.gone) (.vec z21α.2.1 (T_deque_Cell_rep) z21.2.2.1.span.was.cells)), (cond b23 (.obj true z10 z11 (.dat (T_window_Since_repo z22α.2.1)) z29.2) (.obj true z10 z11 (.dat (T_window_Since_repo z21α.2.1)) z21.2.2.1)), (cond b11 (.gone) (.vec z21α.2.2 (T_deque_Cell_rep) z21.2.2.2.span.was.cells)), (cond b11 (.obj true z5 z6 (.dat (T_window_Once_repo z22α.1)) z25.2) (.obj true z5 z6 (.dat (T_window_Once_repo z21α.2.2)) z21.2.2.2)), (cond b11 (.vec (z22α.1) (T_deque_Cell_rep) z25.2.span.was.cells) (.gone)), (cond b23 (.vec (z22α.2.1) (T_deque_Cell_rep) z29.2.span.was.cells) (.gone)), (cond b35 (.vec (z22α.2.2) (T_deque_Cell_rep) z33.2.span.was.cells) (.gone))] : List Go.Eng.Item) := fun z22α S b11 b23 b35 h11 h23 h35 => by subst h11; subst h23; subst h35; rfl
        refine den_weak sub_gone ?_
        refine den_weak sub_gone ?_
        refine den_weak sub_gone ?_
        refine den_weak (sub_pick (H' := [.vec z21α.1 (T_deque_Cell_rep) z21.2.1.span.was.cells, .obj true z17 z18 (.dat (T_window_Once_repo z21α.1)) z21.2.1, .vec z21α.2.1 (T_deque_Cell_rep) z21.2.2.1.span.was.cells, .obj true z10 z11 (.dat (T_window_Since_repo z21α.2.1)) z21.2.2.1, .vec z21α.2.2 (T_deque_Cell_rep) z21.2.2.2.span.was.cells, .obj true z5 z6 (.dat (T_window_Once_repo z21α.2.2)) z21.2.2.2, .gone, .gone, .gone]) [3, 4, 5, 6, 7, 8, 0, 1, 2] rfl rfl) ?_
        refine den_drawA (A := (Value × Value × Value)) (H' := fun z22α => [.gone, .obj true z17 z18 (.dat (T_window_Once_repo z22α.2.2)) z33.2, .gone, .obj true z10 z11 (.dat (T_window_Since_repo z22α.2.1)) z29.2, .gone, .obj true z5 z6 (.dat (T_window_Once_repo z22α.1)) z25.2, .vec (z22α.1) (T_deque_Cell_rep) z25.2.span.was.cells, .vec (z22α.2.1) (T_deque_Cell_rep) z29.2.span.was.cells, .vec (z22α.2.2) (T_deque_Cell_rep) z33.2.span.was.cells]) (fun z22α => [(52, ⟨Rep.addr, (z5, z6), true⟩), (53, ⟨(T_law16_Step_rep).slice, z2, true⟩), (54, ⟨Rep.int .i64, z21.1, true⟩), (55, ⟨(T_law16_Step_rep).ptrTo, z23, true⟩), (56, ⟨(Rep.int .i64).ptrTo, z23.At, true⟩), (57, ⟨Rep.int .i64, z23.At, true⟩), (58, ⟨(T_law16_Step_rep).slice, z2, true⟩), (59, ⟨Rep.int .i64, z21.1, true⟩), (60, ⟨(T_law16_Step_rep).ptrTo, z24, true⟩), (61, ⟨(Rep.bool).ptrTo, z24.F, true⟩), (62, ⟨Rep.bool, z24.F, true⟩), (63, ⟨Rep.bool, z25.1, true⟩), (64, ⟨Rep.addr, (z10, z11), true⟩), (65, ⟨(T_law16_Step_rep).slice, z2, true⟩), (66, ⟨Rep.int .i64, z21.1, true⟩), (67, ⟨(T_law16_Step_rep).ptrTo, z27, true⟩), (68, ⟨(Rep.int .i64).ptrTo, z27.At, true⟩), (69, ⟨Rep.int .i64, z27.At, true⟩), (70, ⟨(T_law16_Step_rep).slice, z2, true⟩), (71, ⟨Rep.int .i64, z21.1, true⟩), (72, ⟨(T_law16_Step_rep).ptrTo, z28, true⟩), (73, ⟨(Rep.bool).ptrTo, z28.F, true⟩), (74, ⟨Rep.bool, z28.F, true⟩), (75, ⟨Rep.bool, z29.1, true⟩), (76, ⟨Rep.addr, (z17, z18), true⟩), (77, ⟨(T_law16_Step_rep).slice, z2, true⟩), (78, ⟨Rep.int .i64, z21.1, true⟩), (79, ⟨(T_law16_Step_rep).ptrTo, z31, true⟩), (80, ⟨(Rep.int .i64).ptrTo, z31.At, true⟩), (81, ⟨Rep.int .i64, z31.At, true⟩), (82, ⟨(T_law16_Step_rep).slice, z2, true⟩), (83, ⟨Rep.int .i64, z21.1, true⟩), (84, ⟨(T_law16_Step_rep).ptrTo, z32, true⟩), (85, ⟨(Rep.bool).ptrTo, z32.F, true⟩), (86, ⟨Rep.bool, z32.F, true⟩), (87, ⟨Rep.bool, z33.1, true⟩), (16, ⟨Rep.bool, z25.1, true⟩), (17, ⟨Rep.bool, z29.1, true⟩), (18, ⟨Rep.bool, z33.1, true⟩)]) (fun z22α S => [(cond (S 35) (.gone) (.vec z21α.1 (T_deque_Cell_rep) z21.2.1.span.was.cells)), (cond (S 35) (.obj true z17 z18 (.dat (T_window_Once_repo z22α.2.2)) z33.2) (.obj true z17 z18 (.dat (T_window_Once_repo z21α.1)) z21.2.1)), (cond (S 23) (.gone) (.vec z21α.2.1 (T_deque_Cell_rep) z21.2.2.1.span.was.cells)), (cond (S 23) (.obj true z10 z11 (.dat (T_window_Since_repo z22α.2.1)) z29.2) (.obj true z10 z11 (.dat (T_window_Since_repo z21α.2.1)) z21.2.2.1)), (cond (S 11) (.gone) (.vec z21α.2.2 (T_deque_Cell_rep) z21.2.2.2.span.was.cells)), (cond (S 11) (.obj true z5 z6 (.dat (T_window_Once_repo z22α.1)) z25.2) (.obj true z5 z6 (.dat (T_window_Once_repo z21α.2.2)) z21.2.2.2)), (cond (S 11) (.vec (z22α.1) (T_deque_Cell_rep) z25.2.span.was.cells) (.gone)), (cond (S 23) (.vec (z22α.2.1) (T_deque_Cell_rep) z29.2.span.was.cells) (.gone)), (cond (S 35) (.vec (z22α.2.2) (T_deque_Cell_rep) z33.2.span.was.cells) (.gone))]) ((Value.slice none 0 0), (Value.slice none 0 0), (Value.slice none 0 0)) mixed (fun _ => rfl) rfl rfl (fun z22α S hS => hB z22α S true true true (hS 11 (by decide)) (hS 23 (by decide)) (hS 35 (by decide))) ⟨?_, ?_, ?_, ?_, ?_, ?_, ?_, ?_, ?_, ?_, ?_, ?_, ?_, ?_, ?_, ?_, ?_, ?_, ?_, ?_, ?_, ?_, ?_, ?_, ?_, ?_, ?_, ?_, ?_, ?_, ?_, ?_, ?_, ?_, ?_, ?_, ?_, ?_, ?_, trivial⟩ (fun z22α => ?_)
        · intro z22α S hc hk hp
          have e11 : S 11 = false := (not_yet (j := 11) (q := 0) hc hk rfl rfl rfl rfl)
          have e23 : S 23 = false := (not_yet (j := 23) (q := 3) hc (not_yet (j := 11) (q := 0) hc hk rfl rfl rfl rfl) rfl rfl rfl rfl)
          have e35 : S 35 = false := (not_yet (j := 35) (q := 3) hc (not_yet (j := 23) (q := 3) hc (not_yet (j := 11) (q := 0) hc hk rfl rfl rfl rfl) rfl rfl rfl rfl) rfl rfl rfl rfl)
          refine eq_H (H' := [.vec z21α.1 (T_deque_Cell_rep) z21.2.1.span.was.cells, .obj true z17 z18 (.dat (T_window_Once_repo z21α.1)) z21.2.1, .vec z21α.2.1 (T_deque_Cell_rep) z21.2.2.1.span.was.cells, .obj true z10 z11 (.dat (T_window_Since_repo z21α.2.1)) z21.2.2.1, .vec z21α.2.2 (T_deque_Cell_rep) z21.2.2.2.span.was.cells, .obj true z5 z6 (.dat (T_window_Once_repo z21α.2.2)) z21.2.2.2, .gone, .gone, .gone]) (by first | exact hB z22α S false false false e11 e23 e35 | (have q := hB z22α S false false false e11 e23 e35; simp only [cond_true, cond_false] at q; exact q)) ?_
          refine o_move rfl rfl guard_none (look_o rfl rfl) (fun _ => rfl) ?_
          apply h_endA (α := z22α) (z22α.1, z22α.2.1, z22α.2.2)
          · exact (.same (.same (.same (.same (.same (.same (.same (.same (.same (.same (.same (.same (.same (.same (.same (.same (.same (.same (.same (.same (.same (.same (.same (.same (.same (.same (.same (.same (.same (.same (.same (.same (.same (.same (.same (.same (.same (.same (.same .nil)))))))))))))))))))))))))))))))))))))))
          · exact rfl
          · exact rfl
          · exact rfl
          · exact hB (z22α.1, z22α.2.1, z22α.2.2) (fun k => S k || Nat.beq k 0) false false false (or_f e11 rfl) (or_f e23 rfl) (or_f e35 rfl)
        · intro z22α S hc hk hp
          have e11 : S 11 = false := (not_yet (j := 11) (q := 1) hc (not_yet (j := 5) (q := 0) hc (not_yet (j := 4) (q := 0) hc (not_yet (j := 3) (q := 0) hc hk rfl rfl rfl rfl) rfl rfl rfl rfl) rfl rfl rfl rfl) rfl rfl rfl rfl)
          have e23 : S 23 = false := (not_yet (j := 23) (q := 3) hc (not_yet (j := 11) (q := 1) hc (not_yet (j := 5) (q := 0) hc (not_yet (j := 4) (q := 0) hc (not_yet (j := 3) (q := 0) hc hk rfl rfl rfl rfl) rfl rfl rfl rfl) rfl rfl rfl rfl) rfl rfl rfl rfl) rfl rfl rfl rfl)
          have e35 : S 35 = false := (not_yet (j := 35) (q := 3) hc (not_yet (j := 23) (q := 3) hc (not_yet (j := 11) (q := 1) hc (not_yet (j := 5) (q := 0) hc (not_yet (j := 4) (q := 0) hc (not_yet (j := 3) (q := 0) hc hk rfl rfl rfl rfl) rfl rfl rfl rfl) rfl rfl rfl rfl) rfl rfl rfl rfl) rfl rfl rfl rfl) rfl rfl rfl rfl)
          refine eq_H (H' := [.vec z21α.1 (T_deque_Cell_rep) z21.2.1.span.was.cells, .obj true z17 z18 (.dat (T_window_Once_repo z21α.1)) z21.2.1, .vec z21α.2.1 (T_deque_Cell_rep) z21.2.2.1.span.was.cells, .obj true z10 z11 (.dat (T_window_Since_repo z21α.2.1)) z21.2.2.1, .vec z21α.2.2 (T_deque_Cell_rep) z21.2.2.2.span.was.cells, .obj true z5 z6 (.dat (T_window_Once_repo z21α.2.2)) z21.2.2.2, .gone, .gone, .gone]) (by first | exact hB z22α S false false false e11 e23 e35 | (have q := hB z22α S false false false e11 e23 e35; simp only [cond_true, cond_false] at q; exact q)) ?_
          refine o_move rfl rfl guard_none (look_o rfl rfl) (fun _ => rfl) ?_
          apply h_endA (α := z22α) (z22α.1, z22α.2.1, z22α.2.2)
          · exact (.same (.same (.same (.same (.same (.same (.same (.same (.same (.same (.same (.same (.same (.same (.same (.same (.same (.same (.same (.same (.same (.same (.same (.same (.same (.same (.same (.same (.same (.same (.same (.same (.same (.same (.same (.same (.same (.same (.same .nil)))))))))))))))))))))))))))))))))))))))
          · exact rfl
          · exact rfl
          · exact rfl
          · exact hB (z22α.1, z22α.2.1, z22α.2.2) (fun k => S k || Nat.beq k 1) false false false (or_f e11 rfl) (or_f e23 rfl) (or_f e35 rfl)
        · intro z22α S hc hk hp
          have e11 : S 11 = false := (not_yet (j := 11) (q := 1) hc (not_yet (j := 5) (q := 0) hc (not_yet (j := 4) (q := 0) hc (not_yet (j := 3) (q := 1) hc hk rfl rfl rfl rfl) rfl rfl rfl rfl) rfl rfl rfl rfl) rfl rfl rfl rfl)
          have e23 : S 23 = false := (not_yet (j := 23) (q := 3) hc (not_yet (j := 11) (q := 1) hc (not_yet (j := 5) (q := 0) hc (not_yet (j := 4) (q := 0) hc (not_yet (j := 3) (q := 1) hc hk rfl rfl rfl rfl) rfl rfl rfl rfl) rfl rfl rfl rfl) rfl rfl rfl rfl) rfl rfl rfl rfl)
          have e35 : S 35 = false := (not_yet (j := 35) (q := 3) hc (not_yet (j := 23) (q := 3) hc (not_yet (j := 11) (q := 1) hc (not_yet (j := 5) (q := 0) hc (not_yet (j := 4) (q := 0) hc (not_yet (j := 3) (q := 1) hc hk rfl rfl rfl rfl) rfl rfl rfl rfl) rfl rfl rfl rfl) rfl rfl rfl rfl) rfl rfl rfl rfl) rfl rfl rfl rfl)
          refine eq_H (H' := [.vec z21α.1 (T_deque_Cell_rep) z21.2.1.span.was.cells, .obj true z17 z18 (.dat (T_window_Once_repo z21α.1)) z21.2.1, .vec z21α.2.1 (T_deque_Cell_rep) z21.2.2.1.span.was.cells, .obj true z10 z11 (.dat (T_window_Since_repo z21α.2.1)) z21.2.2.1, .vec z21α.2.2 (T_deque_Cell_rep) z21.2.2.2.span.was.cells, .obj true z5 z6 (.dat (T_window_Once_repo z21α.2.2)) z21.2.2.2, .gone, .gone, .gone]) (by first | exact hB z22α S false false false e11 e23 e35 | (have q := hB z22α S false false false e11 e23 e35; simp only [cond_true, cond_false] at q; exact q)) ?_
          refine o_move rfl rfl guard_none (look_o rfl rfl) (fun _ => rfl) ?_
          apply h_endA (α := z22α) (z22α.1, z22α.2.1, z22α.2.2)
          · exact (.same (.same (.same (.same (.same (.same (.same (.same (.same (.same (.same (.same (.same (.same (.same (.same (.same (.same (.same (.same (.same (.same (.same (.same (.same (.same (.same (.same (.same (.same (.same (.same (.same (.same (.same (.same (.same (.same (.same .nil)))))))))))))))))))))))))))))))))))))))
          · exact rfl
          · exact rfl
          · exact rfl
          · exact hB (z22α.1, z22α.2.1, z22α.2.2) (fun k => S k || Nat.beq k 2) false false false (or_f e11 rfl) (or_f e23 rfl) (or_f e35 rfl)
        · intro z22α S hc hk hp
          have e11 : S 11 = false := (not_yet (j := 11) (q := 1) hc (not_yet (j := 5) (q := 0) hc (not_yet (j := 4) (q := 0) hc hk rfl rfl rfl rfl) rfl rfl rfl rfl) rfl rfl rfl rfl)
          have e23 : S 23 = false := (not_yet (j := 23) (q := 3) hc (not_yet (j := 11) (q := 1) hc (not_yet (j := 5) (q := 0) hc (not_yet (j := 4) (q := 0) hc hk rfl rfl rfl rfl) rfl rfl rfl rfl) rfl rfl rfl rfl) rfl rfl rfl rfl)
          have e35 : S 35 = false := (not_yet (j := 35) (q := 3) hc (not_yet (j := 23) (q := 3) hc (not_yet (j := 11) (q := 1) hc (not_yet (j := 5) (q := 0) hc (not_yet (j := 4) (q := 0) hc hk rfl rfl rfl rfl) rfl rfl rfl rfl) rfl rfl rfl rfl) rfl rfl rfl rfl) rfl rfl rfl rfl)
          refine eq_H (H' := [.vec z21α.1 (T_deque_Cell_rep) z21.2.1.span.was.cells, .obj true z17 z18 (.dat (T_window_Once_repo z21α.1)) z21.2.1, .vec z21α.2.1 (T_deque_Cell_rep) z21.2.2.1.span.was.cells, .obj true z10 z11 (.dat (T_window_Since_repo z21α.2.1)) z21.2.2.1, .vec z21α.2.2 (T_deque_Cell_rep) z21.2.2.2.span.was.cells, .obj true z5 z6 (.dat (T_window_Once_repo z21α.2.2)) z21.2.2.2, .gone, .gone, .gone]) (by first | exact hB z22α S false false false e11 e23 e35 | (have q := hB z22α S false false false e11 e23 e35; simp only [cond_true, cond_false] at q; exact q)) ?_
          refine o_from (bind_eqO h_z23) ?_
          refine o_iaddr Try.underlying55 type67 rfl rfl (look_d rfl rfl (pr hp 0 rfl rfl)) (look_d rfl rfl (pr hp 1 rfl rfl)) rfl rfl (o_eqO ?_)
          apply h_endA (α := z22α) (z22α.1, z22α.2.1, z22α.2.2)
          · exact (.same (.same (.same (.same (.same (.same (.same (.same (.same (.same (.same (.same (.same (.same (.same (.same (.same (.same (.same (.same (.same (.same (.same (.same (.same (.same (.same (.same (.same (.same (.same (.same (.same (.same (.same (.same (.same (.same (.same .nil)))))))))))))))))))))))))))))))))))))))
          · exact rfl
          · exact rfl
          · exact rfl
          · exact hB (z22α.1, z22α.2.1, z22α.2.2) (fun k => S k || Nat.beq k 3) false false false (or_f e11 rfl) (or_f e23 rfl) (or_f e35 rfl)
        · intro z22α S hc hk hp
          have e11 : S 11 = false := (not_yet (j := 11) (q := 1) hc (not_yet (j := 5) (q := 0) hc hk rfl rfl rfl rfl) rfl rfl rfl rfl)
          have e23 : S 23 = false := (not_yet (j := 23) (q := 3) hc (not_yet (j := 11) (q := 1) hc (not_yet (j := 5) (q := 0) hc hk rfl rfl rfl rfl) rfl rfl rfl rfl) rfl rfl rfl rfl)
          have e35 : S 35 = false := (not_yet (j := 35) (q := 3) hc (not_yet (j := 23) (q := 3) hc (not_yet (j := 11) (q := 1) hc (not_yet (j := 5) (q := 0) hc hk rfl rfl rfl rfl) rfl rfl rfl rfl) rfl rfl rfl rfl) rfl rfl rfl rfl)
          refine eq_H (H' := [.vec z21α.1 (T_deque_Cell_rep) z21.2.1.span.was.cells, .obj true z17 z18 (.dat (T_window_Once_repo z21α.1)) z21.2.1, .vec z21α.2.1 (T_deque_Cell_rep) z21.2.2.1.span.was.cells, .obj true z10 z11 (.dat (T_window_Since_repo z21α.2.1)) z21.2.2.1, .vec z21α.2.2 (T_deque_Cell_rep) z21.2.2.2.span.was.cells, .obj true z5 z6 (.dat (T_window_Once_repo z21α.2.2)) z21.2.2.2, .gone, .gone, .gone]) (by first | exact hB z22α S false false false e11 e23 e35 | (have q := hB z22α S false false false e11 e23 e35; simp only [cond_true, cond_false] at q; exact q)) ?_
          refine o_fptr field67_0 type2 (by decide) T_law16_Step_foc0 rfl rfl guard_none (look_d rfl rfl (pr hp 0 rfl rfl)) (fun _ => rfl) ?_
          apply h_endA (α := z22α) (z22α.1, z22α.2.1, z22α.2.2)
          · exact (.same (.same (.same (.same (.same (.same (.same (.same (.same (.same (.same (.same (.same (.same (.same (.same (.same (.same (.same (.same (.same (.same (.same (.same (.same (.same (.same (.same (.same (.same (.same (.same (.same (.same (.same (.same (.same (.same (.same .nil)))))))))))))))))))))))))))))))))))))))
          · exact rfl
          · exact rfl
          · exact rfl
          · exact hB (z22α.1, z22α.2.1, z22α.2.2) (fun k => S k || Nat.beq k 4) false false false (or_f e11 rfl) (or_f e23 rfl) (or_f e35 rfl)
        · intro z22α S hc hk hp
          have e11 : S 11 = false := (not_yet (j := 11) (q := 1) hc hk rfl rfl rfl rfl)
          have e23 : S 23 = false := (not_yet (j := 23) (q := 3) hc (not_yet (j := 11) (q := 1) hc hk rfl rfl rfl rfl) rfl rfl rfl rfl)
          have e35 : S 35 = false := (not_yet (j := 35) (q := 3) hc (not_yet (j := 23) (q := 3) hc (not_yet (j := 11) (q := 1) hc hk rfl rfl rfl rfl) rfl rfl rfl rfl) rfl rfl rfl rfl)
          refine eq_H (H' := [.vec z21α.1 (T_deque_Cell_rep) z21.2.1.span.was.cells, .obj true z17 z18 (.dat (T_window_Once_repo z21α.1)) z21.2.1, .vec z21α.2.1 (T_deque_Cell_rep) z21.2.2.1.span.was.cells, .obj true z10 z11 (.dat (T_window_Since_repo z21α.2.1)) z21.2.2.1, .vec z21α.2.2 (T_deque_Cell_rep) z21.2.2.2.span.was.cells, .obj true z5 z6 (.dat (T_window_Once_repo z21α.2.2)) z21.2.2.2, .gone, .gone, .gone]) (by first | exact hB z22α S false false false e11 e23 e35 | (have q := hB z22α S false false false e11 e23 e35; simp only [cond_true, cond_false] at q; exact q)) ?_
          refine o_load type2 rfl rfl guard_none (look_d rfl rfl (pr hp 0 rfl rfl)) (fun _ => rfl) ?_
          apply h_endA (α := z22α) (z22α.1, z22α.2.1, z22α.2.2)
          · exact (.same (.same (.same (.same (.same (.same (.same (.same (.same (.same (.same (.same (.same (.same (.same (.same (.same (.same (.same (.same (.same (.same (.same (.same (.same (.same (.same (.same (.same (.same (.same (.same (.same (.same (.same (.same (.same (.same (.same .nil)))))))))))))))))))))))))))))))))))))))
          · exact rfl
          · exact rfl
          · exact rfl
          · exact hB (z22α.1, z22α.2.1, z22α.2.2) (fun k => S k || Nat.beq k 5) false false false (or_f e11 rfl) (or_f e23 rfl) (or_f e35 rfl)
        · intro z22α S hc hk hp
          have e11 : S 11 = false := (not_yet (j := 11) (q := 2) hc (not_yet (j := 10) (q := 0) hc (not_yet (j := 9) (q := 0) hc (not_yet (j := 8) (q := 0) hc hk rfl rfl rfl rfl) rfl rfl rfl rfl) rfl rfl rfl rfl) rfl rfl rfl rfl)
          have e23 : S 23 = false := (not_yet (j := 23) (q := 3) hc (not_yet (j := 11) (q := 2) hc (not_yet (j := 10) (q := 0) hc (not_yet (j := 9) (q := 0) hc (not_yet (j := 8) (q := 0) hc hk rfl rfl rfl rfl) rfl rfl rfl rfl) rfl rfl rfl rfl) rfl rfl rfl rfl) rfl rfl rfl rfl)
          have e35 : S 35 = false := (not_yet (j := 35) (q := 3) hc (not_yet (j := 23) (q := 3) hc (not_yet (j := 11) (q := 2) hc (not_yet (j := 10) (q := 0) hc (not_yet (j := 9) (q := 0) hc (not_yet (j := 8) (q := 0) hc hk rfl rfl rfl rfl) rfl rfl rfl rfl) rfl rfl rfl rfl) rfl rfl rfl rfl) rfl rfl rfl rfl) rfl rfl rfl rfl)
          refine eq_H (H' := [.vec z21α.1 (T_deque_Cell_rep) z21.2.1.span.was.cells, .obj true z17 z18 (.dat (T_window_Once_repo z21α.1)) z21.2.1, .vec z21α.2.1 (T_deque_Cell_rep) z21.2.2.1.span.was.cells, .obj true z10 z11 (.dat (T_window_Since_repo z21α.2.1)) z21.2.2.1, .vec z21α.2.2 (T_deque_Cell_rep) z21.2.2.2.span.was.cells, .obj true z5 z6 (.dat (T_window_Once_repo z21α.2.2)) z21.2.2.2, .gone, .gone, .gone]) (by first | exact hB z22α S false false false e11 e23 e35 | (have q := hB z22α S false false false e11 e23 e35; simp only [cond_true, cond_false] at q; exact q)) ?_
          refine o_move rfl rfl guard_none (look_o rfl rfl) (fun _ => rfl) ?_
          apply h_endA (α := z22α) (z22α.1, z22α.2.1, z22α.2.2)
          · exact (.same (.same (.same (.same (.same (.same (.same (.same (.same (.same (.same (.same (.same (.same (.same (.same (.same (.same (.same (.same (.same (.same (.same (.same (.same (.same (.same (.same (.same (.same (.same (.same (.same (.same (.same (.same (.same (.same (.same .nil)))))))))))))))))))))))))))))))))))))))
          · exact rfl
          · exact rfl
          · exact rfl
          · exact hB (z22α.1, z22α.2.1, z22α.2.2) (fun k => S k || Nat.beq k 6) false false false (or_f e11 rfl) (or_f e23 rfl) (or_f e35 rfl)
        · intro z22α S hc hk hp
          have e11 : S 11 = false := (not_yet (j := 11) (q := 2) hc (not_yet (j := 10) (q := 0) hc (not_yet (j := 9) (q := 0) hc (not_yet (j := 8) (q := 1) hc hk rfl rfl rfl rfl) rfl rfl rfl rfl) rfl rfl rfl rfl) rfl rfl rfl rfl)
          have e23 : S 23 = false := (not_yet (j := 23) (q := 3) hc (not_yet (j := 11) (q := 2) hc (not_yet (j := 10) (q := 0) hc (not_yet (j := 9) (q := 0) hc (not_yet (j := 8) (q := 1) hc hk rfl rfl rfl rfl) rfl rfl rfl rfl) rfl rfl rfl rfl) rfl rfl rfl rfl) rfl rfl rfl rfl)
          have e35 : S 35 = false := (not_yet (j := 35) (q := 3) hc (not_yet (j := 23) (q := 3) hc (not_yet (j := 11) (q := 2) hc (not_yet (j := 10) (q := 0) hc (not_yet (j := 9) (q := 0) hc (not_yet (j := 8) (q := 1) hc hk rfl rfl rfl rfl) rfl rfl rfl rfl) rfl rfl rfl rfl) rfl rfl rfl rfl) rfl rfl rfl rfl) rfl rfl rfl rfl)
          refine eq_H (H' := [.vec z21α.1 (T_deque_Cell_rep) z21.2.1.span.was.cells, .obj true z17 z18 (.dat (T_window_Once_repo z21α.1)) z21.2.1, .vec z21α.2.1 (T_deque_Cell_rep) z21.2.2.1.span.was.cells, .obj true z10 z11 (.dat (T_window_Since_repo z21α.2.1)) z21.2.2.1, .vec z21α.2.2 (T_deque_Cell_rep) z21.2.2.2.span.was.cells, .obj true z5 z6 (.dat (T_window_Once_repo z21α.2.2)) z21.2.2.2, .gone, .gone, .gone]) (by first | exact hB z22α S false false false e11 e23 e35 | (have q := hB z22α S false false false e11 e23 e35; simp only [cond_true, cond_false] at q; exact q)) ?_
          refine o_move rfl rfl guard_none (look_o rfl rfl) (fun _ => rfl) ?_
          apply h_endA (α := z22α) (z22α.1, z22α.2.1, z22α.2.2)
          · exact (.same (.same (.same (.same (.same (.same (.same (.same (.same (.same (.same (.same (.same (.same (.same (.same (.same (.same (.same (.same (.same (.same (.same (.same (.same (.same (.same (.same (.same (.same (.same (.same (.same (.same (.same (.same (.same (.same (.same .nil)))))))))))))))))))))))))))))))))))))))
          · exact rfl
          · exact rfl
          · exact rfl
          · exact hB (z22α.1, z22α.2.1, z22α.2.2) (fun k => S k || Nat.beq k 7) false false false (or_f e11 rfl) (or_f e23 rfl) (or_f e35 rfl)
        · intro z22α S hc hk hp
          have e11 : S 11 = false := (not_yet (j := 11) (q := 2) hc (not_yet (j := 10) (q := 0) hc (not_yet (j := 9) (q := 0) hc hk rfl rfl rfl rfl) rfl rfl rfl rfl) rfl rfl rfl rfl)
          have e23 : S 23 = false := (not_yet (j := 23) (q := 3) hc (not_yet (j := 11) (q := 2) hc (not_yet (j := 10) (q := 0) hc (not_yet (j := 9) (q := 0) hc hk rfl rfl rfl rfl) rfl rfl rfl rfl) rfl rfl rfl rfl) rfl rfl rfl rfl)
          have e35 : S 35 = false := (not_yet (j := 35) (q := 3) hc (not_yet (j := 23) (q := 3) hc (not_yet (j := 11) (q := 2) hc (not_yet (j := 10) (q := 0) hc (not_yet (j := 9) (q := 0) hc hk rfl rfl rfl rfl) rfl rfl rfl rfl) rfl rfl rfl rfl) rfl rfl rfl rfl) rfl rfl rfl rfl)
          refine eq_H (H' := [.vec z21α.1 (T_deque_Cell_rep) z21.2.1.span.was.cells, .obj true z17 z18 (.dat (T_window_Once_repo z21α.1)) z21.2.1, .vec z21α.2.1 (T_deque_Cell_rep) z21.2.2.1.span.was.cells, .obj true z10 z11 (.dat (T_window_Since_repo z21α.2.1)) z21.2.2.1, .vec z21α.2.2 (T_deque_Cell_rep) z21.2.2.2.span.was.cells, .obj true z5 z6 (.dat (T_window_Once_repo z21α.2.2)) z21.2.2.2, .gone, .gone, .gone]) (by first | exact hB z22α S false false false e11 e23 e35 | (have q := hB z22α S false false false e11 e23 e35; simp only [cond_true, cond_false] at q; exact q)) ?_
          refine o_from (bind_eqO h_z24) ?_
          refine o_iaddr Try.underlying55 type67 rfl rfl (look_d rfl rfl (pr hp 0 rfl rfl)) (look_d rfl rfl (pr hp 1 rfl rfl)) rfl rfl (o_eqO ?_)
          apply h_endA (α := z22α) (z22α.1, z22α.2.1, z22α.2.2)
          · exact (.same (.same (.same (.same (.same (.same (.same (.same (.same (.same (.same (.same (.same (.same (.same (.same (.same (.same (.same (.same (.same (.same (.same (.same (.same (.same (.same (.same (.same (.same (.same (.same (.same (.same (.same (.same (.same (.same (.same .nil)))))))))))))))))))))))))))))))))))))))
          · exact rfl
          · exact rfl
          · exact rfl
          · exact hB (z22α.1, z22α.2.1, z22α.2.2) (fun k => S k || Nat.beq k 8) false false false (or_f e11 rfl) (or_f e23 rfl) (or_f e35 rfl)
        · intro z22α S hc hk hp
          have e11 : S 11 = false := (not_yet (j := 11) (q := 2) hc (not_yet (j := 10) (q := 0) hc hk rfl rfl rfl rfl) rfl rfl rfl rfl)
          have e23 : S 23 = false := (not_yet (j := 23) (q := 3) hc (not_yet (j := 11) (q := 2) hc (not_yet (j := 10) (q := 0) hc hk rfl rfl rfl rfl) rfl rfl rfl rfl) rfl rfl rfl rfl)
          have e35 : S 35 = false := (not_yet (j := 35) (q := 3) hc (not_yet (j := 23) (q := 3) hc (not_yet (j := 11) (q := 2) hc (not_yet (j := 10) (q := 0) hc hk rfl rfl rfl rfl) rfl rfl rfl rfl) rfl rfl rfl rfl) rfl rfl rfl rfl)
          refine eq_H (H' := [.vec z21α.1 (T_deque_Cell_rep) z21.2.1.span.was.cells, .obj true z17 z18 (.dat (T_window_Once_repo z21α.1)) z21.2.1, .vec z21α.2.1 (T_deque_Cell_rep) z21.2.2.1.span.was.cells, .obj true z10 z11 (.dat (T_window_Since_repo z21α.2.1)) z21.2.2.1, .vec z21α.2.2 (T_deque_Cell_rep) z21.2.2.2.span.was.cells, .obj true z5 z6 (.dat (T_window_Once_repo z21α.2.2)) z21.2.2.2, .gone, .gone, .gone]) (by first | exact hB z22α S false false false e11 e23 e35 | (have q := hB z22α S false false false e11 e23 e35; simp only [cond_true, cond_false] at q; exact q)) ?_
          refine o_fptr field67_1 type4 (by decide) T_law16_Step_foc1 rfl rfl guard_none (look_d rfl rfl (pr hp 0 rfl rfl)) (fun _ => rfl) ?_
          apply h_endA (α := z22α) (z22α.1, z22α.2.1, z22α.2.2)
          · exact (.same (.same (.same (.same (.same (.same (.same (.same (.same (.same (.same (.same (.same (.same (.same (.same (.same (.same (.same (.same (.same (.same (.same (.same (.same (.same (.same (.same (.same (.same (.same (.same (.same (.same (.same (.same (.same (.same (.same .nil)))))))))))))))))))))))))))))))))))))))
          · exact rfl
          · exact rfl
          · exact rfl
          · exact hB (z22α.1, z22α.2.1, z22α.2.2) (fun k => S k || Nat.beq k 9) false false false (or_f e11 rfl) (or_f e23 rfl) (or_f e35 rfl)
        · intro z22α S hc hk hp
          have e11 : S 11 = false := (not_yet (j := 11) (q := 2) hc hk rfl rfl rfl rfl)
          have e23 : S 23 = false := (not_yet (j := 23) (q := 3) hc (not_yet (j := 11) (q := 2) hc hk rfl rfl rfl rfl) rfl rfl rfl rfl)
          have e35 : S 35 = false := (not_yet (j := 35) (q := 3) hc (not_yet (j := 23) (q := 3) hc (not_yet (j := 11) (q := 2) hc hk rfl rfl rfl rfl) rfl rfl rfl rfl) rfl rfl rfl rfl)
          refine eq_H (H' := [.vec z21α.1 (T_deque_Cell_rep) z21.2.1.span.was.cells, .obj true z17 z18 (.dat (T_window_Once_repo z21α.1)) z21.2.1, .vec z21α.2.1 (T_deque_Cell_rep) z21.2.2.1.span.was.cells, .obj true z10 z11 (.dat (T_window_Since_repo z21α.2.1)) z21.2.2.1, .vec z21α.2.2 (T_deque_Cell_rep) z21.2.2.2.span.was.cells, .obj true z5 z6 (.dat (T_window_Once_repo z21α.2.2)) z21.2.2.2, .gone, .gone, .gone]) (by first | exact hB z22α S false false false e11 e23 e35 | (have q := hB z22α S false false false e11 e23 e35; simp only [cond_true, cond_false] at q; exact q)) ?_
          refine o_load type4 rfl rfl guard_none (look_d rfl rfl (pr hp 0 rfl rfl)) (fun _ => rfl) ?_
          apply h_endA (α := z22α) (z22α.1, z22α.2.1, z22α.2.2)
          · exact (.same (.same (.same (.same (.same (.same (.same (.same (.same (.same (.same (.same (.same (.same (.same (.same (.same (.same (.same (.same (.same (.same (.same (.same (.same (.same (.same (.same (.same (.same (.same (.same (.same (.same (.same (.same (.same (.same (.same .nil)))))))))))))))))))))))))))))))))))))))
          · exact rfl
          · exact rfl
          · exact rfl
          · exact hB (z22α.1, z22α.2.1, z22α.2.2) (fun k => S k || Nat.beq k 10) false false false (or_f e11 rfl) (or_f e23 rfl) (or_f e35 rfl)
        · intro z22α S hc hk hp
          have e23 : S 23 = false := (not_yet (j := 23) (q := 3) hc hk rfl rfl rfl rfl)
          have e35 : S 35 = false := (not_yet (j := 35) (q := 3) hc (not_yet (j := 23) (q := 3) hc hk rfl rfl rfl rfl) rfl rfl rfl rfl)
          refine eq_H (H' := [.vec z21α.1 (T_deque_Cell_rep) z21.2.1.span.was.cells, .obj true z17 z18 (.dat (T_window_Once_repo z21α.1)) z21.2.1, .vec z21α.2.1 (T_deque_Cell_rep) z21.2.2.1.span.was.cells, .obj true z10 z11 (.dat (T_window_Since_repo z21α.2.1)) z21.2.2.1, .vec z21α.2.2 (T_deque_Cell_rep) z21.2.2.2.span.was.cells, .obj true z5 z6 (.dat (T_window_Once_repo z21α.2.2)) z21.2.2.2, .gone, .gone, .gone]) (by first | exact hB z22α S false false false hk e23 e35 | (have q := hB z22α S false false false hk e23 e35; simp only [cond_true, cond_false] at q; exact q)) ?_
          refine o_from (bind_eqO h_z25) ?_
          refine o_weak (H' := [.vec z21α.2.2 (T_deque_Cell_rep) z21.2.2.2.span.was.cells, .obj true z5 z6 (.dat (T_window_Once_repo z21α.2.2)) z21.2.2.2] ++ ([] ++ [.vec z21α.1 (T_deque_Cell_rep) z21.2.1.span.was.cells, .obj true z17 z18 (.dat (T_window_Once_repo z21α.1)) z21.2.1, .vec z21α.2.1 (T_deque_Cell_rep) z21.2.2.1.span.was.cells, .obj true z10 z11 (.dat (T_window_Since_repo z21α.2.1)) z21.2.2.1, .gone, .gone, .gone])) (sub_pick [4, 5, 0, 1, 2, 3, 6, 7, 8] rfl rfl) ?_
          refine o_callU rfl rfl rfl rfl rfl callable34 (looks_cons (look_d rfl rfl (pr hp 0 rfl rfl)) (fun _ => rfl) (looks_cons (look_d rfl rfl (pr hp 1 rfl rfl)) (fun _ => rfl) (looks_cons (look_d rfl rfl (pr hp 2 rfl rfl)) (fun _ => rfl) (looks_nil)))) .nil (window_Once_Step_ok _ _ _ z21.2.2.2 z23.At z24.F) (fun _ _ => (wr_v (wr_c wr_n))) (fun z26α => o_eqOH ?_)
          refine o_weak (H' := [.vec z26α (T_deque_Cell_rep) z25.2.span.was.cells, .obj true z5 z6 (.dat (T_window_Once_repo z26α)) z25.2, .vec z21α.1 (T_deque_Cell_rep) z21.2.1.span.was.cells, .obj true z17 z18 (.dat (T_window_Once_repo z21α.1)) z21.2.1, .vec z21α.2.1 (T_deque_Cell_rep) z21.2.2.1.span.was.cells, .obj true z10 z11 (.dat (T_window_Since_repo z21α.2.1)) z21.2.2.1, .gone, .gone, .gone]) (sub_pick [0, 1, 2, 3, 4, 5, 6, 7, 8] rfl rfl) ?_
          refine o_weak sub_gone ?_
          refine o_weak (H' := [.vec z21α.1 (T_deque_Cell_rep) z21.2.1.span.was.cells, .obj true z17 z18 (.dat (T_window_Once_repo z21α.1)) z21.2.1, .vec z21α.2.1 (T_deque_Cell_rep) z21.2.2.1.span.was.cells, .obj true z10 z11 (.dat (T_window_Since_repo z21α.2.1)) z21.2.2.1, .gone, .obj true z5 z6 (.dat (T_window_Once_repo z26α)) z25.2, .vec z26α (T_deque_Cell_rep) z25.2.span.was.cells, .gone, .gone]) (sub_pick [3, 4, 5, 6, 0, 2, 1, 8, 9] rfl rfl) ?_
          apply h_endA (α := z22α) (z26α, z22α.2.1, z22α.2.2)
          · exact (.same (.same (.same (.same (.same (.same (.same (.same (.same (.same (.same (.same (.same (.same (.same (.same (.same (.same (.same (.same (.same (.same (.same (.same (.same (.same (.same (.same (.same (.same (.same (.same (.same (.same (.same (.same (.same (.same (.same .nil)))))))))))))))))))))))))))))))))))))))
          · exact rfl
          · exact rfl
          · exact rfl
          · exact hB (z26α, z22α.2.1, z22α.2.2) (fun k => S k || Nat.beq k 11) true false false (or_i rfl) (or_f e23 rfl) (or_f e35 rfl)
        · intro z22α S hc hk hp
          have e23 : S 23 = false := (not_yet (j := 23) (q := 0) hc hk rfl rfl rfl rfl)
          have e35 : S 35 = false := (not_yet (j := 35) (q := 3) hc (not_yet (j := 23) (q := 0) hc hk rfl rfl rfl rfl) rfl rfl rfl rfl)
          refine eq_H (H' := [.vec z21α.1 (T_deque_Cell_rep) z21.2.1.span.was.cells, .obj true z17 z18 (.dat (T_window_Once_repo z21α.1)) z21.2.1, .vec z21α.2.1 (T_deque_Cell_rep) z21.2.2.1.span.was.cells, .obj true z10 z11 (.dat (T_window_Since_repo z21α.2.1)) z21.2.2.1, (cond (S 11) (.gone) (.vec z21α.2.2 (T_deque_Cell_rep) z21.2.2.2.span.was.cells)), (cond (S 11) (.obj true z5 z6 (.dat (T_window_Once_repo z22α.1)) z25.2) (.obj true z5 z6 (.dat (T_window_Once_repo z21α.2.2)) z21.2.2.2)), (cond (S 11) (.vec (z22α.1) (T_deque_Cell_rep) z25.2.span.was.cells) (.gone)), .gone, .gone]) (by first | exact hB z22α S (S 11) false false rfl e23 e35 | (have q := hB z22α S (S 11) false false rfl e23 e35; simp only [cond_true, cond_false] at q; exact q)) ?_
          refine o_move rfl rfl guard_none (look_o rfl rfl) (fun _ => rfl) ?_
          apply h_endA (α := z22α) (z22α.1, z22α.2.1, z22α.2.2)
          · exact (.same (.same (.same (.same (.same (.same (.same (.same (.same (.same (.same (.same (.same (.same (.same (.same (.same (.same (.same (.same (.same (.same (.same (.same (.same (.same (.same (.same (.same (.same (.same (.same (.same (.same (.same (.same (.same (.same (.same .nil)))))))))))))))))))))))))))))))))))))))
          · exact rfl
          · exact rfl
          · exact rfl
          · exact hB (z22α.1, z22α.2.1, z22α.2.2) (fun k => S k || Nat.beq k 12) (S 11) false false (or_ne rfl) (or_f e23 rfl) (or_f e35 rfl)
        · intro z22α S hc hk hp
          have e23 : S 23 = false := (not_yet (j := 23) (q := 1) hc (not_yet (j := 17) (q := 0) hc (not_yet (j := 16) (q := 0) hc (not_yet (j := 15) (q := 0) hc hk rfl rfl rfl rfl) rfl rfl rfl rfl) rfl rfl rfl rfl) rfl rfl rfl rfl)
          have e35 : S 35 = false := (not_yet (j := 35) (q := 3) hc (not_yet (j := 23) (q := 1) hc (not_yet (j := 17) (q := 0) hc (not_yet (j := 16) (q := 0) hc (not_yet (j := 15) (q := 0) hc hk rfl rfl rfl rfl) rfl rfl rfl rfl) rfl rfl rfl rfl) rfl rfl rfl rfl) rfl rfl rfl rfl)
          refine eq_H (H' := [.vec z21α.1 (T_deque_Cell_rep) z21.2.1.span.was.cells, .obj true z17 z18 (.dat (T_window_Once_repo z21α.1)) z21.2.1, .vec z21α.2.1 (T_deque_Cell_rep) z21.2.2.1.span.was.cells, .obj true z10 z11 (.dat (T_window_Since_repo z21α.2.1)) z21.2.2.1, (cond (S 11) (.gone) (.vec z21α.2.2 (T_deque_Cell_rep) z21.2.2.2.span.was.cells)), (cond (S 11) (.obj true z5 z6 (.dat (T_window_Once_repo z22α.1)) z25.2) (.obj true z5 z6 (.dat (T_window_Once_repo z21α.2.2)) z21.2.2.2)), (cond (S 11) (.vec (z22α.1) (T_deque_Cell_rep) z25.2.span.was.cells) (.gone)), .gone, .gone]) (by first | exact hB z22α S (S 11) false false rfl e23 e35 | (have q := hB z22α S (S 11) false false rfl e23 e35; simp only [cond_true, cond_false] at q; exact q)) ?_
          refine o_move rfl rfl guard_none (look_o rfl rfl) (fun _ => rfl) ?_
          apply h_endA (α := z22α) (z22α.1, z22α.2.1, z22α.2.2)
          · exact (.same (.same (.same (.same (.same (.same (.same (.same (.same (.same (.same (.same (.same (.same (.same (.same (.same (.same (.same (.same (.same (.same (.same (.same (.same (.same (.same (.same (.same (.same (.same (.same (.same (.same (.same (.same (.same (.same (.same .nil)))))))))))))))))))))))))))))))))))))))
          · exact rfl
          · exact rfl
          · exact rfl
          · exact hB (z22α.1, z22α.2.1, z22α.2.2) (fun k => S k || Nat.beq k 13) (S 11) false false (or_ne rfl) (or_f e23 rfl) (or_f e35 rfl)
        · intro z22α S hc hk hp
          have e23 : S 23 = false := (not_yet (j := 23) (q := 1) hc (not_yet (j := 17) (q := 0) hc (not_yet (j := 16) (q := 0) hc (not_yet (j := 15) (q := 1) hc hk rfl rfl rfl rfl) rfl rfl rfl rfl) rfl rfl rfl rfl) rfl rfl rfl rfl)
          have e35 : S 35 = false := (not_yet (j := 35) (q := 3) hc (not_yet (j := 23) (q := 1) hc (not_yet (j := 17) (q := 0) hc (not_yet (j := 16) (q := 0) hc (not_yet (j := 15) (q := 1) hc hk rfl rfl rfl rfl) rfl rfl rfl rfl) rfl rfl rfl rfl) rfl rfl rfl rfl) rfl rfl rfl rfl)
          refine eq_H (H' := [.vec z21α.1 (T_deque_Cell_rep) z21.2.1.span.was.cells, .obj true z17 z18 (.dat (T_window_Once_repo z21α.1)) z21.2.1, .vec z21α.2.1 (T_deque_Cell_rep) z21.2.2.1.span.was.cells, .obj true z10 z11 (.dat (T_window_Since_repo z21α.2.1)) z21.2.2.1, (cond (S 11) (.gone) (.vec z21α.2.2 (T_deque_Cell_rep) z21.2.2.2.span.was.cells)), (cond (S 11) (.obj true z5 z6 (.dat (T_window_Once_repo z22α.1)) z25.2) (.obj true z5 z6 (.dat (T_window_Once_repo z21α.2.2)) z21.2.2.2)), (cond (S 11) (.vec (z22α.1) (T_deque_Cell_rep) z25.2.span.was.cells) (.gone)), .gone, .gone]) (by first | exact hB z22α S (S 11) false false rfl e23 e35 | (have q := hB z22α S (S 11) false false rfl e23 e35; simp only [cond_true, cond_false] at q; exact q)) ?_
          refine o_move rfl rfl guard_none (look_o rfl rfl) (fun _ => rfl) ?_
          apply h_endA (α := z22α) (z22α.1, z22α.2.1, z22α.2.2)
          · exact (.same (.same (.same (.same (.same (.same (.same (.same (.same (.same (.same (.same (.same (.same (.same (.same (.same (.same (.same (.same (.same (.same (.same (.same (.same (.same (.same (.same (.same (.same (.same (.same (.same (.same (.same (.same (.same (.same (.same .nil)))))))))))))))))))))))))))))))))))))))
          · exact rfl
          · exact rfl
          · exact rfl
          · exact hB (z22α.1, z22α.2.1, z22α.2.2) (fun k => S k || Nat.beq k 14) (S 11) false false (or_ne rfl) (or_f e23 rfl) (or_f e35 rfl)
        · intro z22α S hc hk hp
          have e23 : S 23 = false := (not_yet (j := 23) (q := 1) hc (not_yet (j := 17) (q := 0) hc (not_yet (j := 16) (q := 0) hc hk rfl rfl rfl rfl) rfl rfl rfl rfl) rfl rfl rfl rfl)
          have e35 : S 35 = false := (not_yet (j := 35) (q := 3) hc (not_yet (j := 23) (q := 1) hc (not_yet (j := 17) (q := 0) hc (not_yet (j := 16) (q := 0) hc hk rfl rfl rfl rfl) rfl rfl rfl rfl) rfl rfl rfl rfl) rfl rfl rfl rfl)
          refine eq_H (H' := [.vec z21α.1 (T_deque_Cell_rep) z21.2.1.span.was.cells, .obj true z17 z18 (.dat (T_window_Once_repo z21α.1)) z21.2.1, .vec z21α.2.1 (T_deque_Cell_rep) z21.2.2.1.span.was.cells, .obj true z10 z11 (.dat (T_window_Since_repo z21α.2.1)) z21.2.2.1, (cond (S 11) (.gone) (.vec z21α.2.2 (T_deque_Cell_rep) z21.2.2.2.span.was.cells)), (cond (S 11) (.obj true z5 z6 (.dat (T_window_Once_repo z22α.1)) z25.2) (.obj true z5 z6 (.dat (T_window_Once_repo z21α.2.2)) z21.2.2.2)), (cond (S 11) (.vec (z22α.1) (T_deque_Cell_rep) z25.2.span.was.cells) (.gone)), .gone, .gone]) (by first | exact hB z22α S (S 11) false false rfl e23 e35 | (have q := hB z22α S (S 11) false false rfl e23 e35; simp only [cond_true, cond_false] at q; exact q)) ?_
          refine o_from (bind_eqO h_z27) ?_
          refine o_iaddr Try.underlying55 type67 rfl rfl (look_d rfl rfl (pr hp 0 rfl rfl)) (look_d rfl rfl (pr hp 1 rfl rfl)) rfl rfl (o_eqO ?_)
          apply h_endA (α := z22α) (z22α.1, z22α.2.1, z22α.2.2)
          · exact (.same (.same (.same (.same (.same (.same (.same (.same (.same (.same (.same (.same (.same (.same (.same (.same (.same (.same (.same (.same (.same (.same (.same (.same (.same (.same (.same (.same (.same (.same (.same (.same (.same (.same (.same (.same (.same (.same (.same .nil)))))))))))))))))))))))))))))))))))))))
          · exact rfl
          · exact rfl
          · exact rfl
          · exact hB (z22α.1, z22α.2.1, z22α.2.2) (fun k => S k || Nat.beq k 15) (S 11) false false (or_ne rfl) (or_f e23 rfl) (or_f e35 rfl)
        · intro z22α S hc hk hp
          have e23 : S 23 = false := (not_yet (j := 23) (q := 1) hc (not_yet (j := 17) (q := 0) hc hk rfl rfl rfl rfl) rfl rfl rfl rfl)
          have e35 : S 35 = false := (not_yet (j := 35) (q := 3) hc (not_yet (j := 23) (q := 1) hc (not_yet (j := 17) (q := 0) hc hk rfl rfl rfl rfl) rfl rfl rfl rfl) rfl rfl rfl rfl)
          refine eq_H (H' := [.vec z21α.1 (T_deque_Cell_rep) z21.2.1.span.was.cells, .obj true z17 z18 (.dat (T_window_Once_repo z21α.1)) z21.2.1, .vec z21α.2.1 (T_deque_Cell_rep) z21.2.2.1.span.was.cells, .obj true z10 z11 (.dat (T_window_Since_repo z21α.2.1)) z21.2.2.1, (cond (S 11) (.gone) (.vec z21α.2.2 (T_deque_Cell_rep) z21.2.2.2.span.was.cells)), (cond (S 11) (.obj true z5 z6 (.dat (T_window_Once_repo z22α.1)) z25.2) (.obj true z5 z6 (.dat (T_window_Once_repo z21α.2.2)) z21.2.2.2)), (cond (S 11) (.vec (z22α.1) (T_deque_Cell_rep) z25.2.span.was.cells) (.gone)), .gone, .gone]) (by first | exact hB z22α S (S 11) false false rfl e23 e35 | (have q := hB z22α S (S 11) false false rfl e23 e35; simp only [cond_true, cond_false] at q; exact q)) ?_
          refine o_fptr field67_0 type2 (by decide) T_law16_Step_foc0 rfl rfl guard_none (look_d rfl rfl (pr hp 0 rfl rfl)) (fun _ => rfl) ?_
          apply h_endA (α := z22α) (z22α.1, z22α.2.1, z22α.2.2)
          · exact (.same (.same (.same (.same (.same (.same (.same (.same (.same (.same (.same (.same (.same (.same (.same (.same (.same (.same (.same (.same (.same (.same (.same (.same (.same (.same (.same (.same (.same (.same (.same (.same (.same (.same (.same (.same (.same (.same (.same .nil)))))))))))))))))))))))))))))))))))))))
          · exact rfl
          · exact rfl
          · exact rfl
          · exact hB (z22α.1, z22α.2.1, z22α.2.2) (fun k => S k || Nat.beq k 16) (S 11) false false (or_ne rfl) (or_f e23 rfl) (or_f e35 rfl)
        · intro z22α S hc hk hp
          have e23 : S 23 = false := (not_yet (j := 23) (q := 1) hc hk rfl rfl rfl rfl)
          have e35 : S 35 = false := (not_yet (j := 35) (q := 3) hc (not_yet (j := 23) (q := 1) hc hk rfl rfl rfl rfl) rfl rfl rfl rfl)
          refine eq_H (H' := [.vec z21α.1 (T_deque_Cell_rep) z21.2.1.span.was.cells, .obj true z17 z18 (.dat (T_window_Once_repo z21α.1)) z21.2.1, .vec z21α.2.1 (T_deque_Cell_rep) z21.2.2.1.span.was.cells, .obj true z10 z11 (.dat (T_window_Since_repo z21α.2.1)) z21.2.2.1, (cond (S 11) (.gone) (.vec z21α.2.2 (T_deque_Cell_rep) z21.2.2.2.span.was.cells)), (cond (S 11) (.obj true z5 z6 (.dat (T_window_Once_repo z22α.1)) z25.2) (.obj true z5 z6 (.dat (T_window_Once_repo z21α.2.2)) z21.2.2.2)), (cond (S 11) (.vec (z22α.1) (T_deque_Cell_rep) z25.2.span.was.cells) (.gone)), .gone, .gone]) (by first | exact hB z22α S (S 11) false false rfl e23 e35 | (have q := hB z22α S (S 11) false false rfl e23 e35; simp only [cond_true, cond_false] at q; exact q)) ?_
          refine o_load type2 rfl rfl guard_none (look_d rfl rfl (pr hp 0 rfl rfl)) (fun _ => rfl) ?_
          apply h_endA (α := z22α) (z22α.1, z22α.2.1, z22α.2.2)
          · exact (.same (.same (.same (.same (.same (.same (.same (.same (.same (.same (.same (.same (.same (.same (.same (.same (.same (.same (.same (.same (.same (.same (.same (.same (.same (.same (.same (.same (.same (.same (.same (.same (.same (.same (.same (.same (.same (.same (.same .nil)))))))))))))))))))))))))))))))))))))))
          · exact rfl
          · exact rfl
          · exact rfl
          · exact hB (z22α.1, z22α.2.1, z22α.2.2) (fun k => S k || Nat.beq k 17) (S 11) false false (or_ne rfl) (or_f e23 rfl) (or_f e35 rfl)
        · intro z22α S hc hk hp
          have e23 : S 23 = false := (not_yet (j := 23) (q := 2) hc (not_yet (j := 22) (q := 0) hc (not_yet (j := 21) (q := 0) hc (not_yet (j := 20) (q := 0) hc hk rfl rfl rfl rfl) rfl rfl rfl rfl) rfl rfl rfl rfl) rfl rfl rfl rfl)
          have e35 : S 35 = false := (not_yet (j := 35) (q := 3) hc (not_yet (j := 23) (q := 2) hc (not_yet (j := 22) (q := 0) hc (not_yet (j := 21) (q := 0) hc (not_yet (j := 20) (q := 0) hc hk rfl rfl rfl rfl) rfl rfl rfl rfl) rfl rfl rfl rfl) rfl rfl rfl rfl) rfl rfl rfl rfl)
          refine eq_H (H' := [.vec z21α.1 (T_deque_Cell_rep) z21.2.1.span.was.cells, .obj true z17 z18 (.dat (T_window_Once_repo z21α.1)) z21.2.1, .vec z21α.2.1 (T_deque_Cell_rep) z21.2.2.1.span.was.cells, .obj true z10 z11 (.dat (T_window_Since_repo z21α.2.1)) z21.2.2.1, (cond (S 11) (.gone) (.vec z21α.2.2 (T_deque_Cell_rep) z21.2.2.2.span.was.cells)), (cond (S 11) (.obj true z5 z6 (.dat (T_window_Once_repo z22α.1)) z25.2) (.obj true z5 z6 (.dat (T_window_Once_repo z21α.2.2)) z21.2.2.2)), (cond (S 11) (.vec (z22α.1) (T_deque_Cell_rep) z25.2.span.was.cells) (.gone)), .gone, .gone]) (by first | exact hB z22α S (S 11) false false rfl e23 e35 | (have q := hB z22α S (S 11) false false rfl e23 e35; simp only [cond_true, cond_false] at q; exact q)) ?_
          refine o_move rfl rfl guard_none (look_o rfl rfl) (fun _ => rfl) ?_
          apply h_endA (α := z22α) (z22α.1, z22α.2.1, z22α.2.2)
          · exact (.same (.same (.same (.same (.same (.same (.same (.same (.same (.same (.same (.same (.same (.same (.same (.same (.same (.same (.same (.same (.same (.same (.same (.same (.same (.same (.same (.same (.same (.same (.same (.same (.same (.same (.same (.same (.same (.same (.same .nil)))))))))))))))))))))))))))))))))))))))
          · exact rfl
          · exact rfl
          · exact rfl
          · exact hB (z22α.1, z22α.2.1, z22α.2.2) (fun k => S k || Nat.beq k 18) (S 11) false false (or_ne rfl) (or_f e23 rfl) (or_f e35 rfl)
        · intro z22α S hc hk hp
          have e23 : S 23 = false := (not_yet (j := 23) (q := 2) hc (not_yet (j := 22) (q := 0) hc (not_yet (j := 21) (q := 0) hc (not_yet (j := 20) (q := 1) hc hk rfl rfl rfl rfl) rfl rfl rfl rfl) rfl rfl rfl rfl) rfl rfl rfl rfl)
          have e35 : S 35 = false := (not_yet (j := 35) (q := 3) hc (not_yet (j := 23) (q := 2) hc (not_yet (j := 22) (q := 0) hc (not_yet (j := 21) (q := 0) hc (not_yet (j := 20) (q := 1) hc hk rfl rfl rfl rfl) rfl rfl rfl rfl) rfl rfl rfl rfl) rfl rfl rfl rfl) rfl rfl rfl rfl)
          refine eq_H (H' := [.vec z21α.1 (T_deque_Cell_rep) z21.2.1.span.was.cells, .obj true z17 z18 (.dat (T_window_Once_repo z21α.1)) z21.2.1, .vec z21α.2.1 (T_deque_Cell_rep) z21.2.2.1.span.was.cells, .obj true z10 z11 (.dat (T_window_Since_repo z21α.2.1)) z21.2.2.1, (cond (S 11) (.gone) (.vec z21α.2.2 (T_deque_Cell_rep) z21.2.2.2.span.was.cells)), (cond (S 11) (.obj true z5 z6 (.dat (T_window_Once_repo z22α.1)) z25.2) (.obj true z5 z6 (.dat (T_window_Once_repo z21α.2.2)) z21.2.2.2)), (cond (S 11) (.vec (z22α.1) (T_deque_Cell_rep) z25.2.span.was.cells) (.gone)), .gone, .gone]) (by first | exact hB z22α S (S 11) false false rfl e23 e35 | (have q := hB z22α S (S 11) false false rfl e23 e35; simp only [cond_true, cond_false] at q; exact q)) ?_
          refine o_move rfl rfl guard_none (look_o rfl rfl) (fun _ => rfl) ?_
          apply h_endA (α := z22α) (z22α.1, z22α.2.1, z22α.2.2)
          · exact (.same (.same (.same (.same (.same (.same (.same (.same (.same (.same (.same (.same (.same (.same (.same (.same (.same (.same (.same (.same (.same (.same (.same (.same (.same (.same (.same (.same (.same (.same (.same (.same (.same (.same (.same (.same (.same (.same (.same .nil)))))))))))))))))))))))))))))))))))))))
          · exact rfl
          · exact rfl
          · exact rfl
          · exact hB (z22α.1, z22α.2.1, z22α.2.2) (fun k => S k || Nat.beq k 19) (S 11) false false (or_ne rfl) (or_f e23 rfl) (or_f e35 rfl)
        · intro z22α S hc hk hp
          have e23 : S 23 = false := (not_yet (j := 23) (q := 2) hc (not_yet (j := 22) (q := 0) hc (not_yet (j := 21) (q := 0) hc hk rfl rfl rfl rfl) rfl rfl rfl rfl) rfl rfl rfl rfl)
          have e35 : S 35 = false := (not_yet (j := 35) (q := 3) hc (not_yet (j := 23) (q := 2) hc (not_yet (j := 22) (q := 0) hc (not_yet (j := 21) (q := 0) hc hk rfl rfl rfl rfl) rfl rfl rfl rfl) rfl rfl rfl rfl) rfl rfl rfl rfl)
          refine eq_H (H' := [.vec z21α.1 (T_deque_Cell_rep) z21.2.1.span.was.cells, .obj true z17 z18 (.dat (T_window_Once_repo z21α.1)) z21.2.1, .vec z21α.2.1 (T_deque_Cell_rep) z21.2.2.1.span.was.cells, .obj true z10 z11 (.dat (T_window_Since_repo z21α.2.1)) z21.2.2.1, (cond (S 11) (.gone) (.vec z21α.2.2 (T_deque_Cell_rep) z21.2.2.2.span.was.cells)), (cond (S 11) (.obj true z5 z6 (.dat (T_window_Once_repo z22α.1)) z25.2) (.obj true z5 z6 (.dat (T_window_Once_repo z21α.2.2)) z21.2.2.2)), (cond (S 11) (.vec (z22α.1) (T_deque_Cell_rep) z25.2.span.was.cells) (.gone)), .gone, .gone]) (by first | exact hB z22α S (S 11) false false rfl e23 e35 | (have q := hB z22α S (S 11) false false rfl e23 e35; simp only [cond_true, cond_false] at q; exact q)) ?_
          refine o_from (bind_eqO h_z28) ?_
          refine o_iaddr Try.underlying55 type67 rfl rfl (look_d rfl rfl (pr hp 0 rfl rfl)) (look_d rfl rfl (pr hp 1 rfl rfl)) rfl rfl (o_eqO ?_)
          apply h_endA (α := z22α) (z22α.1, z22α.2.1, z22α.2.2)
          · exact (.same (.same (.same (.same (.same (.same (.same (.same (.same (.same (.same (.same (.same (.same (.same (.same (.same (.same (.same (.same (.same (.same (.same (.same (.same (.same (.same (.same (.same (.same (.same (.same (.same (.same (.same (.same (.same (.same (.same .nil)))))))))))))))))))))))))))))))))))))))
          · exact rfl
          · exact rfl
          · exact rfl
          · exact hB (z22α.1, z22α.2.1, z22α.2.2) (fun k => S k || Nat.beq k 20) (S 11) false false (or_ne rfl) (or_f e23 rfl) (or_f e35 rfl)
        · intro z22α S hc hk hp
          have e23 : S 23 = false := (not_yet (j := 23) (q := 2) hc (not_yet (j := 22) (q := 0) hc hk rfl rfl rfl rfl) rfl rfl rfl rfl)
          have e35 : S 35 = false := (not_yet (j := 35) (q := 3) hc (not_yet (j := 23) (q := 2) hc (not_yet (j := 22) (q := 0) hc hk rfl rfl rfl rfl) rfl rfl rfl rfl) rfl rfl rfl rfl)
          refine eq_H (H' := [.vec z21α.1 (T_deque_Cell_rep) z21.2.1.span.was.cells, .obj true z17 z18 (.dat (T_window_Once_repo z21α.1)) z21.2.1, .vec z21α.2.1 (T_deque_Cell_rep) z21.2.2.1.span.was.cells, .obj true z10 z11 (.dat (T_window_Since_repo z21α.2.1)) z21.2.2.1, (cond (S 11) (.gone) (.vec z21α.2.2 (T_deque_Cell_rep) z21.2.2.2.span.was.cells)), (cond (S 11) (.obj true z5 z6 (.dat (T_window_Once_repo z22α.1)) z25.2) (.obj true z5 z6 (.dat (T_window_Once_repo z21α.2.2)) z21.2.2.2)), (cond (S 11) (.vec (z22α.1) (T_deque_Cell_rep) z25.2.span.was.cells) (.gone)), .gone, .gone]) (by first | exact hB z22α S (S 11) false false rfl e23 e35 | (have q := hB z22α S (S 11) false false rfl e23 e35; simp only [cond_true, cond_false] at q; exact q)) ?_
          refine o_fptr field67_1 type4 (by decide) T_law16_Step_foc1 rfl rfl guard_none (look_d rfl rfl (pr hp 0 rfl rfl)) (fun _ => rfl) ?_
          apply h_endA (α := z22α) (z22α.1, z22α.2.1, z22α.2.2)
          · exact (.same (.same (.same (.same (.same (.same (.same (.same (.same (.same (.same (.same (.same (.same (.same (.same (.same (.same (.same (.same (.same (.same (.same (.same (.same (.same (.same (.same (.same (.same (.same (.same (.same (.same (.same (.same (.same (.same (.same .nil)))))))))))))))))))))))))))))))))))))))
          · exact rfl
          · exact rfl
          · exact rfl
          · exact hB (z22α.1, z22α.2.1, z22α.2.2) (fun k => S k || Nat.beq k 21) (S 11) false false (or_ne rfl) (or_f e23 rfl) (or_f e35 rfl)
        · intro z22α S hc hk hp
          have e23 : S 23 = false := (not_yet (j := 23) (q := 2) hc hk rfl rfl rfl rfl)
          have e35 : S 35 = false := (not_yet (j := 35) (q := 3) hc (not_yet (j := 23) (q := 2) hc hk rfl rfl rfl rfl) rfl rfl rfl rfl)
          refine eq_H (H' := [.vec z21α.1 (T_deque_Cell_rep) z21.2.1.span.was.cells, .obj true z17 z18 (.dat (T_window_Once_repo z21α.1)) z21.2.1, .vec z21α.2.1 (T_deque_Cell_rep) z21.2.2.1.span.was.cells, .obj true z10 z11 (.dat (T_window_Since_repo z21α.2.1)) z21.2.2.1, (cond (S 11) (.gone) (.vec z21α.2.2 (T_deque_Cell_rep) z21.2.2.2.span.was.cells)), (cond (S 11) (.obj true z5 z6 (.dat (T_window_Once_repo z22α.1)) z25.2) (.obj true z5 z6 (.dat (T_window_Once_repo z21α.2.2)) z21.2.2.2)), (cond (S 11) (.vec (z22α.1) (T_deque_Cell_rep) z25.2.span.was.cells) (.gone)), .gone, .gone]) (by first | exact hB z22α S (S 11) false false rfl e23 e35 | (have q := hB z22α S (S 11) false false rfl e23 e35; simp only [cond_true, cond_false] at q; exact q)) ?_
          refine o_load type4 rfl rfl guard_none (look_d rfl rfl (pr hp 0 rfl rfl)) (fun _ => rfl) ?_
          apply h_endA (α := z22α) (z22α.1, z22α.2.1, z22α.2.2)
          · exact (.same (.same (.same (.same (.same (.same (.same (.same (.same (.same (.same (.same (.same (.same (.same (.same (.same (.same (.same (.same (.same (.same (.same (.same (.same (.same (.same (.same (.same (.same (.same (.same (.same (.same (.same (.same (.same (.same (.same .nil)))))))))))))))))))))))))))))))))))))))
          · exact rfl
          · exact rfl
          · exact rfl
          · exact hB (z22α.1, z22α.2.1, z22α.2.2) (fun k => S k || Nat.beq k 22) (S 11) false false (or_ne rfl) (or_f e23 rfl) (or_f e35 rfl)
        · intro z22α S hc hk hp
          have e11 : S 11 = true := (pr hp 3 rfl rfl)
          have e35 : S 35 = false := (not_yet (j := 35) (q := 3) hc hk rfl rfl rfl rfl)
          refine eq_H (H' := [.vec z21α.1 (T_deque_Cell_rep) z21.2.1.span.was.cells, .obj true z17 z18 (.dat (T_window_Once_repo z21α.1)) z21.2.1, .vec z21α.2.1 (T_deque_Cell_rep) z21.2.2.1.span.was.cells, .obj true z10 z11 (.dat (T_window_Since_repo z21α.2.1)) z21.2.2.1, .gone, .obj true z5 z6 (.dat (T_window_Once_repo z22α.1)) z25.2, .vec (z22α.1) (T_deque_Cell_rep) z25.2.span.was.cells, .gone, .gone]) (by first | exact hB z22α S true false false e11 hk e35 | (have q := hB z22α S true false false e11 hk e35; simp only [cond_true, cond_false] at q; exact q)) ?_
          refine o_from (bind_eqO h_z29) ?_
          refine o_weak (H' := [.vec z21α.2.1 (T_deque_Cell_rep) z21.2.2.1.span.was.cells, .obj true z10 z11 (.dat (T_window_Since_repo z21α.2.1)) z21.2.2.1] ++ ([] ++ [.vec z21α.1 (T_deque_Cell_rep) z21.2.1.span.was.cells, .obj true z17 z18 (.dat (T_window_Once_repo z21α.1)) z21.2.1, .gone, .obj true z5 z6 (.dat (T_window_Once_repo z22α.1)) z25.2, .vec (z22α.1) (T_deque_Cell_rep) z25.2.span.was.cells, .gone, .gone])) (sub_pick [2, 3, 0, 1, 4, 5, 6, 7, 8] rfl rfl) ?_
          refine o_callU rfl rfl rfl rfl rfl callable37 (looks_cons (look_d rfl rfl (pr hp 0 rfl rfl)) (fun _ => rfl) (looks_cons (look_d rfl rfl (pr hp 1 rfl rfl)) (fun _ => rfl) (looks_cons look_bool (fun _ => rfl) (looks_cons (look_d rfl rfl (pr hp 2 rfl rfl)) (fun _ => rfl) (looks_nil))))) .nil (window_Since_Step_ok _ _ _ z21.2.2.1 z27.At true z28.F) (fun _ _ => (wr_v (wr_c wr_n))) (fun z30α => o_eqOH ?_)
          refine o_weak (H' := [.vec z30α (T_deque_Cell_rep) z29.2.span.was.cells, .obj true z10 z11 (.dat (T_window_Since_repo z30α)) z29.2, .vec z21α.1 (T_deque_Cell_rep) z21.2.1.span.was.cells, .obj true z17 z18 (.dat (T_window_Once_repo z21α.1)) z21.2.1, .gone, .obj true z5 z6 (.dat (T_window_Once_repo z22α.1)) z25.2, .vec (z22α.1) (T_deque_Cell_rep) z25.2.span.was.cells, .gone, .gone]) (sub_pick [0, 1, 2, 3, 4, 5, 6, 7, 8] rfl rfl) ?_
          refine o_weak sub_gone ?_
          refine o_weak (H' := [.vec z21α.1 (T_deque_Cell_rep) z21.2.1.span.was.cells, .obj true z17 z18 (.dat (T_window_Once_repo z21α.1)) z21.2.1, .gone, .obj true z10 z11 (.dat (T_window_Since_repo z30α)) z29.2, .gone, .obj true z5 z6 (.dat (T_window_Once_repo z22α.1)) z25.2, .vec (z22α.1) (T_deque_Cell_rep) z25.2.span.was.cells, .vec z30α (T_deque_Cell_rep) z29.2.span.was.cells, .gone]) (sub_pick [3, 4, 0, 2, 5, 6, 7, 1, 9] rfl rfl) ?_
          apply h_endA (α := z22α) (z22α.1, z30α, z22α.2.2)
          · exact (.same (.same (.same (.same (.same (.same (.same (.same (.same (.same (.same (.same (.same (.same (.same (.same (.same (.same (.same (.same (.same (.same (.same (.same (.same (.same (.same (.same (.same (.same (.same (.same (.same (.same (.same (.same (.same (.same (.same .nil)))))))))))))))))))))))))))))))))))))))
          · exact rfl
          · exact rfl
          · exact rfl
          · exact hB (z22α.1, z30α, z22α.2.2) (fun k => S k || Nat.beq k 23) true true false (or_t e11) (or_i rfl) (or_f e35 rfl)
        · intro z22α S hc hk hp
          have e35 : S 35 = false := (not_yet (j := 35) (q := 0) hc hk rfl rfl rfl rfl)
          refine eq_H (H' := [.vec z21α.1 (T_deque_Cell_rep) z21.2.1.span.was.cells, .obj true z17 z18 (.dat (T_window_Once_repo z21α.1)) z21.2.1, (cond (S 23) (.gone) (.vec z21α.2.1 (T_deque_Cell_rep) z21.2.2.1.span.was.cells)), (cond (S 23) (.obj true z10 z11 (.dat (T_window_Since_repo z22α.2.1)) z29.2) (.obj true z10 z11 (.dat (T_window_Since_repo z21α.2.1)) z21.2.2.1)), (cond (S 11) (.gone) (.vec z21α.2.2 (T_deque_Cell_rep) z21.2.2.2.span.was.cells)), (cond (S 11) (.obj true z5 z6 (.dat (T_window_Once_repo z22α.1)) z25.2) (.obj true z5 z6 (.dat (T_window_Once_repo z21α.2.2)) z21.2.2.2)), (cond (S 11) (.vec (z22α.1) (T_deque_Cell_rep) z25.2.span.was.cells) (.gone)), (cond (S 23) (.vec (z22α.2.1) (T_deque_Cell_rep) z29.2.span.was.cells) (.gone)), .gone]) (by first | exact hB z22α S (S 11) (S 23) false rfl rfl e35 | (have q := hB z22α S (S 11) (S 23) false rfl rfl e35; simp only [cond_true, cond_false] at q; exact q)) ?_
          refine o_move rfl rfl guard_none (look_o rfl rfl) (fun _ => rfl) ?_
          apply h_endA (α := z22α) (z22α.1, z22α.2.1, z22α.2.2)
          · exact (.same (.same (.same (.same (.same (.same (.same (.same (.same (.same (.same (.same (.same (.same (.same (.same (.same (.same (.same (.same (.same (.same (.same (.same (.same (.same (.same (.same (.same (.same (.same (.same (.same (.same (.same (.same (.same (.same (.same .nil)))))))))))))))))))))))))))))))))))))))
          · exact rfl
          · exact rfl
          · exact rfl
          · exact hB (z22α.1, z22α.2.1, z22α.2.2) (fun k => S k || Nat.beq k 24) (S 11) (S 23) false (or_ne rfl) (or_ne rfl) (or_f e35 rfl)
        · intro z22α S hc hk hp
          have e35 : S 35 = false := (not_yet (j := 35) (q := 1) hc (not_yet (j := 29) (q := 0) hc (not_yet (j := 28) (q := 0) hc (not_yet (j := 27) (q := 0) hc hk rfl rfl rfl rfl) rfl rfl rfl rfl) rfl rfl rfl rfl) rfl rfl rfl rfl)
          refine eq_H (H' := [.vec z21α.1 (T_deque_Cell_rep) z21.2.1.span.was.cells, .obj true z17 z18 (.dat (T_window_Once_repo z21α.1)) z21.2.1, (cond (S 23) (.gone) (.vec z21α.2.1 (T_deque_Cell_rep) z21.2.2.1.span.was.cells)), (cond (S 23) (.obj true z10 z11 (.dat (T_window_Since_repo z22α.2.1)) z29.2) (.obj true z10 z11 (.dat (T_window_Since_repo z21α.2.1)) z21.2.2.1)), (cond (S 11) (.gone) (.vec z21α.2.2 (T_deque_Cell_rep) z21.2.2.2.span.was.cells)), (cond (S 11) (.obj true z5 z6 (.dat (T_window_Once_repo z22α.1)) z25.2) (.obj true z5 z6 (.dat (T_window_Once_repo z21α.2.2)) z21.2.2.2)), (cond (S 11) (.vec (z22α.1) (T_deque_Cell_rep) z25.2.span.was.cells) (.gone)), (cond (S 23) (.vec (z22α.2.1) (T_deque_Cell_rep) z29.2.span.was.cells) (.gone)), .gone]) (by first | exact hB z22α S (S 11) (S 23) false rfl rfl e35 | (have q := hB z22α S (S 11) (S 23) false rfl rfl e35; simp only [cond_true, cond_false] at q; exact q)) ?_
          refine o_move rfl rfl guard_none (look_o rfl rfl) (fun _ => rfl) ?_
          apply h_endA (α := z22α) (z22α.1, z22α.2.1, z22α.2.2)
          · exact (.same (.same (.same (.same (.same (.same (.same (.same (.same (.same (.same (.same (.same (.same (.same (.same (.same (.same (.same (.same (.same (.same (.same (.same (.same (.same (.same (.same (.same (.same (.same (.same (.same (.same (.same (.same (.same (.same (.same .nil)))))))))))))))))))))))))))))))))))))))
          · exact rfl
          · exact rfl
          · exact rfl
          · exact hB (z22α.1, z22α.2.1, z22α.2.2) (fun k => S k || Nat.beq k 25) (S 11) (S 23) false (or_ne rfl) (or_ne rfl) (or_f e35 rfl)
        · intro z22α S hc hk hp
          have e35 : S 35 = false := (not_yet (j := 35) (q := 1) hc (not_yet (j := 29) (q := 0) hc (not_yet (j := 28) (q := 0) hc (not_yet (j := 27) (q := 1) hc hk rfl rfl rfl rfl) rfl rfl rfl rfl) rfl rfl rfl rfl) rfl rfl rfl rfl)
          refine eq_H (H' := [.vec z21α.1 (T_deque_Cell_rep) z21.2.1.span.was.cells, .obj true z17 z18 (.dat (T_window_Once_repo z21α.1)) z21.2.1, (cond (S 23) (.gone) (.vec z21α.2.1 (T_deque_Cell_rep) z21.2.2.1.span.was.cells)), (cond (S 23) (.obj true z10 z11 (.dat (T_window_Since_repo z22α.2.1)) z29.2) (.obj true z10 z11 (.dat (T_window_Since_repo z21α.2.1)) z21.2.2.1)), (cond (S 11) (.gone) (.vec z21α.2.2 (T_deque_Cell_rep) z21.2.2.2.span.was.cells)), (cond (S 11) (.obj true z5 z6 (.dat (T_window_Once_repo z22α.1)) z25.2) (.obj true z5 z6 (.dat (T_window_Once_repo z21α.2.2)) z21.2.2.2)), (cond (S 11) (.vec (z22α.1) (T_deque_Cell_rep) z25.2.span.was.cells) (.gone)), (cond (S 23) (.vec (z22α.2.1) (T_deque_Cell_rep) z29.2.span.was.cells) (.gone)), .gone]) (by first | exact hB z22α S (S 11) (S 23) false rfl rfl e35 | (have q := hB z22α S (S 11) (S 23) false rfl rfl e35; simp only [cond_true, cond_false] at q; exact q)) ?_
          refine o_move rfl rfl guard_none (look_o rfl rfl) (fun _ => rfl) ?_
          apply h_endA (α := z22α) (z22α.1, z22α.2.1, z22α.2.2)
          · exact (.same (.same (.same (.same (.same (.same (.same (.same (.same (.same (.same (.same (.same (.same (.same (.same (.same (.same (.same (.same (.same (.same (.same (.same (.same (.same (.same (.same (.same (.same (.same (.same (.same (.same (.same (.same (.same (.same (.same .nil)))))))))))))))))))))))))))))))))))))))
          · exact rfl
          · exact rfl
          · exact rfl
          · exact hB (z22α.1, z22α.2.1, z22α.2.2) (fun k => S k || Nat.beq k 26) (S 11) (S 23) false (or_ne rfl) (or_ne rfl) (or_f e35 rfl)
        · intro z22α S hc hk hp
          have e35 : S 35 = false := (not_yet (j := 35) (q := 1) hc (not_yet (j := 29) (q := 0) hc (not_yet (j := 28) (q := 0) hc hk rfl rfl rfl rfl) rfl rfl rfl rfl) rfl rfl rfl rfl)
          refine eq_H (H' := [.vec z21α.1 (T_deque_Cell_rep) z21.2.1.span.was.cells, .obj true z17 z18 (.dat (T_window_Once_repo z21α.1)) z21.2.1, (cond (S 23) (.gone) (.vec z21α.2.1 (T_deque_Cell_rep) z21.2.2.1.span.was.cells)), (cond (S 23) (.obj true z10 z11 (.dat (T_window_Since_repo z22α.2.1)) z29.2) (.obj true z10 z11 (.dat (T_window_Since_repo z21α.2.1)) z21.2.2.1)), (cond (S 11) (.gone) (.vec z21α.2.2 (T_deque_Cell_rep) z21.2.2.2.span.was.cells)), (cond (S 11) (.obj true z5 z6 (.dat (T_window_Once_repo z22α.1)) z25.2) (.obj true z5 z6 (.dat (T_window_Once_repo z21α.2.2)) z21.2.2.2)), (cond (S 11) (.vec (z22α.1) (T_deque_Cell_rep) z25.2.span.was.cells) (.gone)), (cond (S 23) (.vec (z22α.2.1) (T_deque_Cell_rep) z29.2.span.was.cells) (.gone)), .gone]) (by first | exact hB z22α S (S 11) (S 23) false rfl rfl e35 | (have q := hB z22α S (S 11) (S 23) false rfl rfl e35; simp only [cond_true, cond_false] at q; exact q)) ?_
          refine o_from (bind_eqO h_z31) ?_
          refine o_iaddr Try.underlying55 type67 rfl rfl (look_d rfl rfl (pr hp 0 rfl rfl)) (look_d rfl rfl (pr hp 1 rfl rfl)) rfl rfl (o_eqO ?_)
          apply h_endA (α := z22α) (z22α.1, z22α.2.1, z22α.2.2)
          · exact (.same (.same (.same (.same (.same (.same (.same (.same (.same (.same (.same (.same (.same (.same (.same (.same (.same (.same (.same (.same (.same (.same (.same (.same (.same (.same (.same (.same (.same (.same (.same (.same (.same (.same (.same (.same (.same (.same (.same .nil)))))))))))))))))))))))))))))))))))))))
          · exact rfl
          · exact rfl
          · exact rfl
          · exact hB (z22α.1, z22α.2.1, z22α.2.2) (fun k => S k || Nat.beq k 27) (S 11) (S 23) false (or_ne rfl) (or_ne rfl) (or_f e35 rfl)
        · intro z22α S hc hk hp
          have e35 : S 35 = false := (not_yet (j := 35) (q := 1) hc (not_yet (j := 29) (q := 0) hc hk rfl rfl rfl rfl) rfl rfl rfl rfl)
          refine eq_H (H' := [.vec z21α.1 (T_deque_Cell_rep) z21.2.1.span.was.cells, .obj true z17 z18 (.dat (T_window_Once_repo z21α.1)) z21.2.1, (cond (S 23) (.gone) (.vec z21α.2.1 (T_deque_Cell_rep) z21.2.2.1.span.was.cells)), (cond (S 23) (.obj true z10 z11 (.dat (T_window_Since_repo z22α.2.1)) z29.2) (.obj true z10 z11 (.dat (T_window_Since_repo z21α.2.1)) z21.2.2.1)), (cond (S 11) (.gone) (.vec z21α.2.2 (T_deque_Cell_rep) z21.2.2.2.span.was.cells)), (cond (S 11) (.obj true z5 z6 (.dat (T_window_Once_repo z22α.1)) z25.2) (.obj true z5 z6 (.dat (T_window_Once_repo z21α.2.2)) z21.2.2.2)), (cond (S 11) (.vec (z22α.1) (T_deque_Cell_rep) z25.2.span.was.cells) (.gone)), (cond (S 23) (.vec (z22α.2.1) (T_deque_Cell_rep) z29.2.span.was.cells) (.gone)), .gone]) (by first | exact hB z22α S (S 11) (S 23) false rfl rfl e35 | (have q := hB z22α S (S 11) (S 23) false rfl rfl e35; simp only [cond_true, cond_false] at q; exact q)) ?_
          refine o_fptr field67_0 type2 (by decide) T_law16_Step_foc0 rfl rfl guard_none (look_d rfl rfl (pr hp 0 rfl rfl)) (fun _ => rfl) ?_
          apply h_endA (α := z22α) (z22α.1, z22α.2.1, z22α.2.2)
          · exact (.same (.same (.same (.same (.same (.same (.same (.same (.same (.same (.same (.same (.same (.same (.same (.same (.same (.same (.same (.same (.same (.same (.same (.same (.same (.same (.same (.same (.same (.same (.same (.same (.same (.same (.same (.same (.same (.same (.same .nil)))))))))))))))))))))))))))))))))))))))
          · exact rfl
          · exact rfl
          · exact rfl
          · exact hB (z22α.1, z22α.2.1, z22α.2.2) (fun k => S k || Nat.beq k 28) (S 11) (S 23) false (or_ne rfl) (or_ne rfl) (or_f e35 rfl)
        · intro z22α S hc hk hp
          have e35 : S 35 = false := (not_yet (j := 35) (q := 1) hc hk rfl rfl rfl rfl)
          refine eq_H (H' := [.vec z21α.1 (T_deque_Cell_rep) z21.2.1.span.was.cells, .obj true z17 z18 (.dat (T_window_Once_repo z21α.1)) z21.2.1, (cond (S 23) (.gone) (.vec z21α.2.1 (T_deque_Cell_rep) z21.2.2.1.span.was.cells)), (cond (S 23) (.obj true z10 z11 (.dat (T_window_Since_repo z22α.2.1)) z29.2) (.obj true z10 z11 (.dat (T_window_Since_repo z21α.2.1)) z21.2.2.1)), (cond (S 11) (.gone) (.vec z21α.2.2 (T_deque_Cell_rep) z21.2.2.2.span.was.cells)), (cond (S 11) (.obj true z5 z6 (.dat (T_window_Once_repo z22α.1)) z25.2) (.obj true z5 z6 (.dat (T_window_Once_repo z21α.2.2)) z21.2.2.2)), (cond (S 11) (.vec (z22α.1) (T_deque_Cell_rep) z25.2.span.was.cells) (.gone)), (cond (S 23) (.vec (z22α.2.1) (T_deque_Cell_rep) z29.2.span.was.cells) (.gone)), .gone]) (by first | exact hB z22α S (S 11) (S 23) false rfl rfl e35 | (have q := hB z22α S (S 11) (S 23) false rfl rfl e35; simp only [cond_true, cond_false] at q; exact q)) ?_
          refine o_load type2 rfl rfl guard_none (look_d rfl rfl (pr hp 0 rfl rfl)) (fun _ => rfl) ?_
          apply h_endA (α := z22α) (z22α.1, z22α.2.1, z22α.2.2)
          · exact (.same (.same (.same (.same (.same (.same (.same (.same (.same (.same (.same (.same (.same (.same (.same (.same (.same (.same (.same (.same (.same (.same (.same (.same (.same (.same (.same (.same (.same (.same (.same (.same (.same (.same (.same (.same (.same (.same (.same .nil)))))))))))))))))))))))))))))))))))))))
          · exact rfl
          · exact rfl
          · exact rfl
          · exact hB (z22α.1, z22α.2.1, z22α.2.2) (fun k => S k || Nat.beq k 29) (S 11) (S 23) false (or_ne rfl) (or_ne rfl) (or_f e35 rfl)
        · intro z22α S hc hk hp
          have e35 : S 35 = false := (not_yet (j := 35) (q := 2) hc (not_yet (j := 34) (q := 0) hc (not_yet (j := 33) (q := 0) hc (not_yet (j := 32) (q := 0) hc hk rfl rfl rfl rfl) rfl rfl rfl rfl) rfl rfl rfl rfl) rfl rfl rfl rfl)
          refine eq_H (H' := [.vec z21α.1 (T_deque_Cell_rep) z21.2.1.span.was.cells, .obj true z17 z18 (.dat (T_window_Once_repo z21α.1)) z21.2.1, (cond (S 23) (.gone) (.vec z21α.2.1 (T_deque_Cell_rep) z21.2.2.1.span.was.cells)), (cond (S 23) (.obj true z10 z11 (.dat (T_window_Since_repo z22α.2.1)) z29.2) (.obj true z10 z11 (.dat (T_window_Since_repo z21α.2.1)) z21.2.2.1)), (cond (S 11) (.gone) (.vec z21α.2.2 (T_deque_Cell_rep) z21.2.2.2.span.was.cells)), (cond (S 11) (.obj true z5 z6 (.dat (T_window_Once_repo z22α.1)) z25.2) (.obj true z5 z6 (.dat (T_window_Once_repo z21α.2.2)) z21.2.2.2)), (cond (S 11) (.vec (z22α.1) (T_deque_Cell_rep) z25.2.span.was.cells) (.gone)), (cond (S 23) (.vec (z22α.2.1) (T_deque_Cell_rep) z29.2.span.was.cells) (.gone)), .gone]) (by first | exact hB z22α S (S 11) (S 23) false rfl rfl e35 | (have q := hB z22α S (S 11) (S 23) false rfl rfl e35; simp only [cond_true, cond_false] at q; exact q)) ?_
          refine o_move rfl rfl guard_none (look_o rfl rfl) (fun _ => rfl) ?_
          apply h_endA (α := z22α) (z22α.1, z22α.2.1, z22α.2.2)
          · exact (.same (.same (.same (.same (.same (.same (.same (.same (.same (.same (.same (.same (.same (.same (.same (.same (.same (.same (.same (.same (.same (.same (.same (.same (.same (.same (.same (.same (.same (.same (.same (.same (.same (.same (.same (.same (.same (.same (.same .nil)))))))))))))))))))))))))))))))))))))))
          · exact rfl
          · exact rfl
          · exact rfl
          · exact hB (z22α.1, z22α.2.1, z22α.2.2) (fun k => S k || Nat.beq k 30) (S 11) (S 23) false (or_ne rfl) (or_ne rfl) (or_f e35 rfl)
        · intro z22α S hc hk hp
          have e35 : S 35 = false := (not_yet (j := 35) (q := 2) hc (not_yet (j := 34) (q := 0) hc (not_yet (j := 33) (q := 0) hc (not_yet (j := 32) (q := 1) hc hk rfl rfl rfl rfl) rfl rfl rfl rfl) rfl rfl rfl rfl) rfl rfl rfl rfl)
          refine eq_H (H' := [.vec z21α.1 (T_deque_Cell_rep) z21.2.1.span.was.cells, .obj true z17 z18 (.dat (T_window_Once_repo z21α.1)) z21.2.1, (cond (S 23) (.gone) (.vec z21α.2.1 (T_deque_Cell_rep) z21.2.2.1.span.was.cells)), (cond (S 23) (.obj true z10 z11 (.dat (T_window_Since_repo z22α.2.1)) z29.2) (.obj true z10 z11 (.dat (T_window_Since_repo z21α.2.1)) z21.2.2.1)), (cond (S 11) (.gone) (.vec z21α.2.2 (T_deque_Cell_rep) z21.2.2.2.span.was.cells)), (cond (S 11) (.obj true z5 z6 (.dat (T_window_Once_repo z22α.1)) z25.2) (.obj true z5 z6 (.dat (T_window_Once_repo z21α.2.2)) z21.2.2.2)), (cond (S 11) (.vec (z22α.1) (T_deque_Cell_rep) z25.2.span.was.cells) (.gone)), (cond (S 23) (.vec (z22α.2.1) (T_deque_Cell_rep) z29.2.span.was.cells) (.gone)), .gone]) (by first | exact hB z22α S (S 11) (S 23) false rfl rfl e35 | (have q := hB z22α S (S 11) (S 23) false rfl rfl e35; simp only [cond_true, cond_false] at q; exact q)) ?_
          refine o_move rfl rfl guard_none (look_o rfl rfl) (fun _ => rfl) ?_
          apply h_endA (α := z22α) (z22α.1, z22α.2.1, z22α.2.2)
          · exact (.same (.same (.same (.same (.same (.same (.same (.same (.same (.same (.same (.same (.same (.same (.same (.same (.same (.same (.same (.same (.same (.same (.same (.same (.same (.same (.same (.same (.same (.same (.same (.same (.same (.same (.same (.same (.same (.same (.same .nil)))))))))))))))))))))))))))))))))))))))
          · exact rfl
          · exact rfl
          · exact rfl
          · exact hB (z22α.1, z22α.2.1, z22α.2.2) (fun k => S k || Nat.beq k 31) (S 11) (S 23) false (or_ne rfl) (or_ne rfl) (or_f e35 rfl)
        · intro z22α S hc hk hp
          have e35 : S 35 = false := (not_yet (j := 35) (q := 2) hc (not_yet (j := 34) (q := 0) hc (not_yet (j := 33) (q := 0) hc hk rfl rfl rfl rfl) rfl rfl rfl rfl) rfl rfl rfl rfl)
          refine eq_H (H' := [.vec z21α.1 (T_deque_Cell_rep) z21.2.1.span.was.cells, .obj true z17 z18 (.dat (T_window_Once_repo z21α.1)) z21.2.1, (cond (S 23) (.gone) (.vec z21α.2.1 (T_deque_Cell_rep) z21.2.2.1.span.was.cells)), (cond (S 23) (.obj true z10 z11 (.dat (T_window_Since_repo z22α.2.1)) z29.2) (.obj true z10 z11 (.dat (T_window_Since_repo z21α.2.1)) z21.2.2.1)), (cond (S 11) (.gone) (.vec z21α.2.2 (T_deque_Cell_rep) z21.2.2.2.span.was.cells)), (cond (S 11) (.obj true z5 z6 (.dat (T_window_Once_repo z22α.1)) z25.2) (.obj true z5 z6 (.dat (T_window_Once_repo z21α.2.2)) z21.2.2.2)), (cond (S 11) (.vec (z22α.1) (T_deque_Cell_rep) z25.2.span.was.cells) (.gone)), (cond (S 23) (.vec (z22α.2.1) (T_deque_Cell_rep) z29.2.span.was.cells) (.gone)), .gone]) (by first | exact hB z22α S (S 11) (S 23) false rfl rfl e35 | (have q := hB z22α S (S 11) (S 23) false rfl rfl e35; simp only [cond_true, cond_false] at q; exact q)) ?_
          refine o_from (bind_eqO h_z32) ?_
          refine o_iaddr Try.underlying55 type67 rfl rfl (look_d rfl rfl (pr hp 0 rfl rfl)) (look_d rfl rfl (pr hp 1 rfl rfl)) rfl rfl (o_eqO ?_)
          apply h_endA (α := z22α) (z22α.1, z22α.2.1, z22α.2.2)
          · exact (.same (.same (.same (.same (.same (.same (.same (.same (.same (.same (.same (.same (.same (.same (.same (.same (.same (.same (.same (.same (.same (.same (.same (.same (.same (.same (.same (.same (.same (.same (.same (.same (.same (.same (.same (.same (.same (.same (.same .nil)))))))))))))))))))))))))))))))))))))))
          · exact rfl
          · exact rfl
          · exact rfl
          · exact hB (z22α.1, z22α.2.1, z22α.2.2) (fun k => S k || Nat.beq k 32) (S 11) (S 23) false (or_ne rfl) (or_ne rfl) (or_f e35 rfl)
        · intro z22α S hc hk hp
          have e35 : S 35 = false := (not_yet (j := 35) (q := 2) hc (not_yet (j := 34) (q := 0) hc hk rfl rfl rfl rfl) rfl rfl rfl rfl)
          refine eq_H (H' := [.vec z21α.1 (T_deque_Cell_rep) z21.2.1.span.was.cells, .obj true z17 z18 (.dat (T_window_Once_repo z21α.1)) z21.2.1, (cond (S 23) (.gone) (.vec z21α.2.1 (T_deque_Cell_rep) z21.2.2.1.span.was.cells)), (cond (S 23) (.obj true z10 z11 (.dat (T_window_Since_repo z22α.2.1)) z29.2) (.obj true z10 z11 (.dat (T_window_Since_repo z21α.2.1)) z21.2.2.1)), (cond (S 11) (.gone) (.vec z21α.2.2 (T_deque_Cell_rep) z21.2.2.2.span.was.cells)), (cond (S 11) (.obj true z5 z6 (.dat (T_window_Once_repo z22α.1)) z25.2) (.obj true z5 z6 (.dat (T_window_Once_repo z21α.2.2)) z21.2.2.2)), (cond (S 11) (.vec (z22α.1) (T_deque_Cell_rep) z25.2.span.was.cells) (.gone)), (cond (S 23) (.vec (z22α.2.1) (T_deque_Cell_rep) z29.2.span.was.cells) (.gone)), .gone]) (by first | exact hB z22α S (S 11) (S 23) false rfl rfl e35 | (have q := hB z22α S (S 11) (S 23) false rfl rfl e35; simp only [cond_true, cond_false] at q; exact q)) ?_
          refine o_fptr field67_1 type4 (by decide) T_law16_Step_foc1 rfl rfl guard_none (look_d rfl rfl (pr hp 0 rfl rfl)) (fun _ => rfl) ?_
          apply h_endA (α := z22α) (z22α.1, z22α.2.1, z22α.2.2)
          · exact (.same (.same (.same (.same (.same (.same (.same (.same (.same (.same (.same (.same (.same (.same (.same (.same (.same (.same (.same (.same (.same (.same (.same (.same (.same (.same (.same (.same (.same (.same (.same (.same (.same (.same (.same (.same (.same (.same (.same .nil)))))))))))))))))))))))))))))))))))))))
          · exact rfl
          · exact rfl
          · exact rfl
          · exact hB (z22α.1, z22α.2.1, z22α.2.2) (fun k => S k || Nat.beq k 33) (S 11) (S 23) false (or_ne rfl) (or_ne rfl) (or_f e35 rfl)
        · intro z22α S hc hk hp
          have e35 : S 35 = false := (not_yet (j := 35) (q := 2) hc hk rfl rfl rfl rfl)
          refine eq_H (H' := [.vec z21α.1 (T_deque_Cell_rep) z21.2.1.span.was.cells, .obj true z17 z18 (.dat (T_window_Once_repo z21α.1)) z21.2.1, (cond (S 23) (.gone) (.vec z21α.2.1 (T_deque_Cell_rep) z21.2.2.1.span.was.cells)), (cond (S 23) (.obj true z10 z11 (.dat (T_window_Since_repo z22α.2.1)) z29.2) (.obj true z10 z11 (.dat (T_window_Since_repo z21α.2.1)) z21.2.2.1)), (cond (S 11) (.gone) (.vec z21α.2.2 (T_deque_Cell_rep) z21.2.2.2.span.was.cells)), (cond (S 11) (.obj true z5 z6 (.dat (T_window_Once_repo z22α.1)) z25.2) (.obj true z5 z6 (.dat (T_window_Once_repo z21α.2.2)) z21.2.2.2)), (cond (S 11) (.vec (z22α.1) (T_deque_Cell_rep) z25.2.span.was.cells) (.gone)), (cond (S 23) (.vec (z22α.2.1) (T_deque_Cell_rep) z29.2.span.was.cells) (.gone)), .gone]) (by first | exact hB z22α S (S 11) (S 23) false rfl rfl e35 | (have q := hB z22α S (S 11) (S 23) false rfl rfl e35; simp only [cond_true, cond_false] at q; exact q)) ?_
          refine o_load type4 rfl rfl guard_none (look_d rfl rfl (pr hp 0 rfl rfl)) (fun _ => rfl) ?_
          apply h_endA (α := z22α) (z22α.1, z22α.2.1, z22α.2.2)
          · exact (.same (.same (.same (.same (.same (.same (.same (.same (.same (.same (.same (.same (.same (.same (.same (.same (.same (.same (.same (.same (.same (.same (.same (.same (.same (.same (.same (.same (.same (.same (.same (.same (.same (.same (.same (.same (.same (.same (.same .nil)))))))))))))))))))))))))))))))))))))))
          · exact rfl
          · exact rfl
          · exact rfl
          · exact hB (z22α.1, z22α.2.1, z22α.2.2) (fun k => S k || Nat.beq k 34) (S 11) (S 23) false (or_ne rfl) (or_ne rfl) (or_f e35 rfl)
        · intro z22α S hc hk hp
          have e11 : S 11 = true := (pr (hc 23 _ rfl (pr hp 3 rfl rfl)) 3 rfl rfl)
          have e23 : S 23 = true := (pr hp 3 rfl rfl)
          refine eq_H (H' := [.vec z21α.1 (T_deque_Cell_rep) z21.2.1.span.was.cells, .obj true z17 z18 (.dat (T_window_Once_repo z21α.1)) z21.2.1, .gone, .obj true z10 z11 (.dat (T_window_Since_repo z22α.2.1)) z29.2, .gone, .obj true z5 z6 (.dat (T_window_Once_repo z22α.1)) z25.2, .vec (z22α.1) (T_deque_Cell_rep) z25.2.span.was.cells, .vec (z22α.2.1) (T_deque_Cell_rep) z29.2.span.was.cells, .gone]) (by first | exact hB z22α S true true false e11 e23 hk | (have q := hB z22α S true true false e11 e23 hk; simp only [cond_true, cond_false] at q; exact q)) ?_
          refine o_from (bind_eqO h_z33) ?_
          refine o_weak (H' := [.vec z21α.1 (T_deque_Cell_rep) z21.2.1.span.was.cells, .obj true z17 z18 (.dat (T_window_Once_repo z21α.1)) z21.2.1] ++ ([] ++ [.gone, .obj true z10 z11 (.dat (T_window_Since_repo z22α.2.1)) z29.2, .gone, .obj true z5 z6 (.dat (T_window_Once_repo z22α.1)) z25.2, .vec (z22α.1) (T_deque_Cell_rep) z25.2.span.was.cells, .vec (z22α.2.1) (T_deque_Cell_rep) z29.2.span.was.cells, .gone])) (sub_pick [0, 1, 2, 3, 4, 5, 6, 7, 8] rfl rfl) ?_
          refine o_callU rfl rfl rfl rfl rfl callable34 (looks_cons (look_d rfl rfl (pr hp 0 rfl rfl)) (fun _ => rfl) (looks_cons (look_d rfl rfl (pr hp 1 rfl rfl)) (fun _ => rfl) (looks_cons (look_d rfl rfl (pr hp 2 rfl rfl)) (fun _ => rfl) (looks_nil)))) .nil (window_Once_Step_ok _ _ _ z21.2.1 z31.At z32.F) (fun _ _ => (wr_v (wr_c wr_n))) (fun z34α => o_eqOH ?_)
          refine o_weak (H' := [.vec z34α (T_deque_Cell_rep) z33.2.span.was.cells, .obj true z17 z18 (.dat (T_window_Once_repo z34α)) z33.2, .gone, .obj true z10 z11 (.dat (T_window_Since_repo z22α.2.1)) z29.2, .gone, .obj true z5 z6 (.dat (T_window_Once_repo z22α.1)) z25.2, .vec (z22α.1) (T_deque_Cell_rep) z25.2.span.was.cells, .vec (z22α.2.1) (T_deque_Cell_rep) z29.2.span.was.cells, .gone]) (sub_pick [0, 1, 2, 3, 4, 5, 6, 7, 8] rfl rfl) ?_
          refine o_weak sub_gone ?_
          refine o_weak (H' := [.gone, .obj true z17 z18 (.dat (T_window_Once_repo z34α)) z33.2, .gone, .obj true z10 z11 (.dat (T_window_Since_repo z22α.2.1)) z29.2, .gone, .obj true z5 z6 (.dat (T_window_Once_repo z22α.1)) z25.2, .vec (z22α.1) (T_deque_Cell_rep) z25.2.span.was.cells, .vec (z22α.2.1) (T_deque_Cell_rep) z29.2.span.was.cells, .vec z34α (T_deque_Cell_rep) z33.2.span.was.cells]) (sub_pick [0, 2, 3, 4, 5, 6, 7, 8, 1] rfl rfl) ?_
          apply h_endA (α := z22α) (z22α.1, z22α.2.1, z34α)
          · exact (.same (.same (.same (.same (.same (.same (.same (.same (.same (.same (.same (.same (.same (.same (.same (.same (.same (.same (.same (.same (.same (.same (.same (.same (.same (.same (.same (.same (.same (.same (.same (.same (.same (.same (.same (.same (.same (.same (.same .nil)))))))))))))))))))))))))))))))))))))))
          · exact rfl
          · exact rfl
          · exact rfl
          · exact hB (z22α.1, z22α.2.1, z34α) (fun k => S k || Nat.beq k 35) true true true (or_t e11) (or_t e23) (or_i rfl)
        · intro z22α S hc hk hp
          have e11 : S 11 = true := (pr hp 0 rfl rfl)
          have e23 : S 23 = true := (pr (hc 35 _ rfl (pr hp 1 rfl rfl)) 3 rfl rfl)
          have e35 : S 35 = true := (pr hp 1 rfl rfl)
          refine eq_H (H' := [.gone, .obj true z17 z18 (.dat (T_window_Once_repo z22α.2.2)) z33.2, .gone, .obj true z10 z11 (.dat (T_window_Since_repo z22α.2.1)) z29.2, .gone, .obj true z5 z6 (.dat (T_window_Once_repo z22α.1)) z25.2, .vec (z22α.1) (T_deque_Cell_rep) z25.2.span.was.cells, .vec (z22α.2.1) (T_deque_Cell_rep) z29.2.span.was.cells, .vec (z22α.2.2) (T_deque_Cell_rep) z33.2.span.was.cells]) (by first | exact hB z22α S true true true e11 e23 e35 | (have q := hB z22α S true true true e11 e23 e35; simp only [cond_true, cond_false] at q; exact q)) ?_
          refine o_assign rfl rfl guard_none (look_d rfl rfl (pr hp 0 rfl rfl)) (fun _ => rfl) ?_
          apply h_endA (α := z22α) (z22α.1, z22α.2.1, z22α.2.2)
          · exact (.same (.same (.same (.same (.same (.same (.same (.same (.same (.same (.same (.same (.same (.same (.same (.same (.same (.same (.same (.same (.same (.same (.same (.same (.same (.same (.same (.same (.same (.same (.same (.same (.same (.same (.same (.same (.same (.same (.same .nil)))))))))))))))))))))))))))))))))))))))
          · exact rfl
          · exact rfl
          · exact rfl
          · exact hB (z22α.1, z22α.2.1, z22α.2.2) (fun k => S k || Nat.beq k 36) true true true (or_t e11) (or_t e23) (or_t e35)
        · intro z22α S hc hk hp
          have e11 : S 11 = true := (pr hp 13 rfl rfl)
          have e23 : S 23 = true := (pr hp 0 rfl rfl)
          have e35 : S 35 = true := (pr (hc 36 _ rfl (pr hp 1 rfl rfl)) 1 rfl rfl)
          refine eq_H (H' := [.gone, .obj true z17 z18 (.dat (T_window_Once_repo z22α.2.2)) z33.2, .gone, .obj true z10 z11 (.dat (T_window_Since_repo z22α.2.1)) z29.2, .gone, .obj true z5 z6 (.dat (T_window_Once_repo z22α.1)) z25.2, .vec (z22α.1) (T_deque_Cell_rep) z25.2.span.was.cells, .vec (z22α.2.1) (T_deque_Cell_rep) z29.2.span.was.cells, .vec (z22α.2.2) (T_deque_Cell_rep) z33.2.span.was.cells]) (by first | exact hB z22α S true true true e11 e23 e35 | (have q := hB z22α S true true true e11 e23 e35; simp only [cond_true, cond_false] at q; exact q)) ?_
          refine o_assign rfl rfl guard_none (look_d rfl rfl (pr hp 0 rfl rfl)) (fun _ => rfl) ?_
          apply h_endA (α := z22α) (z22α.1, z22α.2.1, z22α.2.2)
          · exact (.same (.same (.same (.same (.same (.same (.same (.same (.same (.same (.same (.same (.same (.same (.same (.same (.same (.same (.same (.same (.same (.same (.same (.same (.same (.same (.same (.same (.same (.same (.same (.same (.same (.same (.same (.same (.same (.same (.same .nil)))))))))))))))))))))))))))))))))))))))
          · exact rfl
          · exact rfl
          · exact rfl
          · exact hB (z22α.1, z22α.2.1, z22α.2.2) (fun k => S k || Nat.beq k 37) true true true (or_t e11) (or_t e23) (or_t e35)
        · intro z22α S hc hk hp
          have e11 : S 11 = true := (pr hp 13 rfl rfl)
          have e23 : S 23 = true := (pr hp 25 rfl rfl)
          have e35 : S 35 = true := (pr hp 0 rfl rfl)
          refine eq_H (H' := [.gone, .obj true z17 z18 (.dat (T_window_Once_repo z22α.2.2)) z33.2, .gone, .obj true z10 z11 (.dat (T_window_Since_repo z22α.2.1)) z29.2, .gone, .obj true z5 z6 (.dat (T_window_Once_repo z22α.1)) z25.2, .vec (z22α.1) (T_deque_Cell_rep) z25.2.span.was.cells, .vec (z22α.2.1) (T_deque_Cell_rep) z29.2.span.was.cells, .vec (z22α.2.2) (T_deque_Cell_rep) z33.2.span.was.cells]) (by first | exact hB z22α S true true true e11 e23 e35 | (have q := hB z22α S true true true e11 e23 e35; simp only [cond_true, cond_false] at q; exact q)) ?_
          refine o_assign rfl rfl guard_none (look_d rfl rfl (pr hp 0 rfl rfl)) (fun _ => rfl) ?_
          apply h_endA (α := z22α) (z22α.1, z22α.2.1, z22α.2.2)
          · exact (.same (.same (.same (.same (.same (.same (.same (.same (.same (.same (.same (.same (.same (.same (.same (.same (.same (.same (.same (.same (.same (.same (.same (.same (.same (.same (.same (.same (.same (.same (.same (.same (.same (.same (.same (.same (.same (.same (.same .nil)))))))))))))))))))))))))))))))))))))))
          · exact rfl
          · exact rfl
          · exact rfl
          · exact hB (z22α.1, z22α.2.1, z22α.2.2) (fun k => S k || Nat.beq k 38) true true true (or_t e11) (or_t e23) (or_t e35)
        refine den_weak (H' := [.obj true z17 z18 (.dat (T_window_Once_repo z22α.2.2)) z33.2, .obj true z10 z11 (.dat (T_window_Since_repo z22α.2.1)) z29.2, .obj true z5 z6 (.dat (T_window_Once_repo z22α.1)) z25.2, .vec z22α.1 (T_deque_Cell_rep) z25.2.span.was.cells, .vec z22α.2.1 (T_deque_Cell_rep) z29.2.span.was.cells, .vec z22α.2.2 (T_deque_Cell_rep) z33.2.span.was.cells]) (sub_pick [1, 3, 5, 6, 7, 8] rfl rfl) ?_
        refine den_seq ?_
        refine den_region rfl ?_
        refine o_move rfl rfl guard_none (look_tmp rfl) (fun _ => rfl) ?_
        refine o_move rfl rfl guard_none (look_tmp rfl) (fun _ => rfl) ?_
        refine o_bneq Try.underlying4 rfl rfl guard_none (look_tmp rfl) (look_tmp rfl) (fun _ => rfl) (fun _ => rfl) ?_
        refine o_move rfl rfl guard_none (look_tmp rfl) (fun _ => rfl) ?_
        refine o_move rfl rfl (guard_some rfl rfl rfl) (look_tmp rfl) (fun _ => rfl) ?_
        refine o_move rfl rfl (guard_some rfl rfl rfl) (look_tmp rfl) (fun h => h) ?_
        refine o_move rfl rfl (guard_some rfl rfl rfl) (look_tmp rfl) (fun _ => rfl) ?_
        refine o_not rfl rfl (guard_some rfl rfl rfl) (look_tmp rfl) (fun h => h) ?_
        refine o_pick rfl rfl (guard_some rfl rfl rfl) (look_tmp rfl) (look_tmp rfl) look_bool (fun h => h) (fun h1 h2 => pick_t ((fun h => h) h1) h2) (fun _ _ => rfl) ?_
        refine o_pick rfl rfl guard_none (look_tmp rfl) look_bool (look_tmp rfl) (fun _ => rfl) (fun _ _ => rfl) (fun h1 h2 => pick_f ((fun _ => rfl) h1) h2) ?_
        refine o_move rfl rfl guard_none (look_tmp rfl) (fun _ => rfl) ?_
        refine o_move rfl rfl (guard_some rfl rfl rfl) (look_tmp rfl) (fun _ => rfl) ?_
        refine o_weak (H' := [] ++ ([.vec z22α.1 (T_deque_Cell_rep) z25.2.span.was.cells, .obj true z5 z6 (.dat (T_window_Once_repo z22α.1)) z25.2] ++ [.obj true z17 z18 (.dat (T_window_Once_repo z22α.2.2)) z33.2, .obj true z10 z11 (.dat (T_window_Since_repo z22α.2.1)) z29.2, .vec z22α.2.1 (T_deque_Cell_rep) z29.2.span.was.cells, .vec z22α.2.2 (T_deque_Cell_rep) z33.2.span.was.cells])) (sub_pick [3, 2, 0, 1, 4, 5] rfl rfl) ?_
        refine o_callX (its := []) (0 : Int) () rfl rfl rfl rfl (guard_some rfl rfl rfl) callable35 (looks_cons (look_tmp rfl) (fun h => h) (looks_nil)) (.vec (.cons .nil)) (window_Once_Cells_ok _ _ _ z25.2) (fun _ _ => wr_n) ?_ (fun z36α z35 => ?_)
        · exact fun _ => rfl
        refine o_weak (H' := [.vec z22α.1 (T_deque_Cell_rep) z25.2.span.was.cells, .obj true z5 z6 (.dat (T_window_Once_repo z22α.1)) z25.2, .obj true z17 z18 (.dat (T_window_Once_repo z22α.2.2)) z33.2, .obj true z10 z11 (.dat (T_window_Since_repo z22α.2.1)) z29.2, .vec z22α.2.1 (T_deque_Cell_rep) z29.2.span.was.cells, .vec z22α.2.2 (T_deque_Cell_rep) z33.2.span.was.cells]) (sub_pick [0, 1, 2, 3, 4, 5] rfl rfl) ?_
        refine o_move rfl rfl (guard_some rfl rfl rfl) (look_tmp rfl) (fun _ => rfl) ?_
        refine o_weak (H' := [] ++ ([.vec z22α.2.1 (T_deque_Cell_rep) z29.2.span.was.cells, .obj true z10 z11 (.dat (T_window_Since_repo z22α.2.1)) z29.2] ++ [.vec z22α.1 (T_deque_Cell_rep) z25.2.span.was.cells, .obj true z5 z6 (.dat (T_window_Once_repo z22α.1)) z25.2, .obj true z17 z18 (.dat (T_window_Once_repo z22α.2.2)) z33.2, .vec z22α.2.2 (T_deque_Cell_rep) z33.2.span.was.cells])) (sub_pick [4, 3, 0, 1, 2, 5] rfl rfl) ?_
        refine o_callX (its := []) (0 : Int) () rfl rfl rfl rfl (guard_some rfl rfl rfl) callable38 (looks_cons (look_tmp rfl) (fun h => h) (looks_nil)) (.vec (.cons .nil)) (window_Since_Cells_ok _ _ _ z29.2) (fun _ _ => wr_n) ?_ (fun z38α z37 => ?_)
        · exact fun _ => rfl
        refine o_weak (H' := [.vec z22α.2.1 (T_deque_Cell_rep) z29.2.span.was.cells, .obj true z10 z11 (.dat (T_window_Since_repo z22α.2.1)) z29.2, .vec z22α.1 (T_deque_Cell_rep) z25.2.span.was.cells, .obj true z5 z6 (.dat (T_window_Once_repo z22α.1)) z25.2, .obj true z17 z18 (.dat (T_window_Once_repo z22α.2.2)) z33.2, .vec z22α.2.2 (T_deque_Cell_rep) z33.2.span.was.cells]) (sub_pick [0, 1, 2, 3, 4, 5] rfl rfl) ?_
        refine o_neq rfl rfl (guard_some rfl rfl rfl) (look_tmp rfl) (look_tmp rfl) (fun h => h) (fun h => h) ?_
        refine o_pick rfl rfl guard_none (look_tmp rfl) look_bool (look_tmp rfl) (fun _ => rfl) (fun _ _ => rfl) (fun h1 h2 => pick_f ((fun _ => rfl) h1) h2) ?_
        refine o_end ?_
        refine den_cond (look_tmp rfl) ?_ ?_
        · refine den_seq ?_
          refine den_region rfl ?_
          refine o_assign rfl rfl guard_none look_bool (fun _ => rfl) ?_
          refine o_end ?_
          refine den_code_ret ?_
          refine dene_ret ?_
          refine dene_loopA (by simp) ?_
          refine dene_ret ?_
          refine dene_both (by simp) ?_
          refine dene_ret ?_
          exact dene_res (res1 rfl (rv_tmp rfl))
        · refine den_skip ?_
          refine den_blkend ?_
          refine den_region rfl ?_
          refine o_move rfl rfl guard_none (look_tmp rfl) (fun _ => rfl) ?_
          refine o_add rfl rfl guard_none (look_tmp rfl) (look_int rfl) (fun _ => rfl) (fun _ => rfl) ?_
          refine o_assign rfl rfl guard_none (look_tmp rfl) (fun _ => rfl) ?_
          refine o_end ?_
          refine den_nextA (z22α.2.2, z22α.2.1, z22α.1) ((Sub.trans (sub_pick [5, 4, 0, 1, 2, 3] rfl rfl) (sub_env (sube_cons rfl (sube_cons rfl (sube_cons rfl (sube_cons rfl (sube_cons rfl (sube_nil)))))))))
      · refine den_code_exit ?_
        refine dene_out rfl ?_
        refine dene_loopA (by simp) ?_
        refine dene_to rfl ?_
        refine den_endl ((Sub.trans (sub_pick [] rfl rfl) (sub_env (sube_nil))))
    refine den_seq ?_
    refine den_region rfl ?_
    refine o_assign rfl rfl guard_none look_bool (fun _ => rfl) ?_
    refine o_end ?_
    refine den_code_ret ?_
    exact dene_res (res1 rfl (rv_tmp rfl))

theorem window_Once_Step_n0_ok  (a_1 : Int) (f_2 : Bool) : FunOk Try.prog 34 [⟨.nilp, (), true⟩, ⟨Rep.int .i64, a_1, true⟩, ⟨Rep.bool, f_2, true⟩] (window_Once_Step_n0 a_1 f_2) (Rep.bool) := by
  refine fun_ok Try.func34 rfl Try.ntmps34 rfl (all_cons rfl (all_cons rfl (all_cons rfl all_nil))) (fun w0 ok0 => ?_)
  refine den_seq ?_
  refine den_region rfl ?_
  refine o_assign rfl rfl guard_none look_bool (fun _ => rfl) ?_
  refine o_end ?_
  refine den_seq ?_
  refine den_seq ?_
  refine den_region rfl ?_
  refine o_move rfl rfl guard_none (look_tmp rfl) (fun _ => rfl) ?_
  refine o_neql Try.underlying61 rfl rfl guard_none (look_tmp rfl) (fun _ => rfl) ?_
  refine o_move rfl rfl guard_none (look_tmp rfl) (fun _ => rfl) ?_
  refine o_move rfl rfl (guard_some rfl rfl rfl) (look_tmp rfl) (fun _ => rfl) ?_
  refine o_bad (R := Rep.unit) rfl rfl (guard_some rfl rfl rfl) (fun z1 => ?_)
  refine o_bad (R := Rep.unit) rfl rfl (guard_some rfl rfl rfl) (fun z2 => ?_)
  refine o_bad (R := Rep.unit) rfl rfl (guard_some rfl rfl rfl) (fun z3 => ?_)
  refine o_bad (R := Rep.bool) rfl rfl (guard_some rfl rfl rfl) (fun z4 => ?_)
  refine o_not rfl rfl (guard_some rfl rfl rfl) (look_tmp rfl) (fun h => h) ?_
  refine o_pick rfl rfl guard_none (look_tmp rfl) look_bool (look_tmp rfl) (fun _ => rfl) (fun _ _ => rfl) (fun h1 h2 => pick_f ((fun _ => rfl) h1) h2) ?_
  refine o_end ?_
  refine den_cond (look_tmp rfl) ?_ ?_
  · refine den_seq ?_
    refine den_region rfl ?_
    refine o_assign rfl rfl guard_none look_bool (fun _ => rfl) ?_
    refine o_end ?_
    refine den_code_ret ?_
    refine dene_ret ?_
    exact dene_res (res1 rfl (rv_tmp rfl))
  · refine den_skip ?_
    refine den_seq ?_
    refine den_region rfl ?_
    refine o_move rfl rfl guard_none (look_tmp rfl) (fun _ => rfl) ?_
    exact o_none

theorem window_Since_Step_n0_ok  (a_1 : Int) (f_2 : Bool) (g_3 : Bool) : FunOk Try.prog 37 [⟨.nilp, (), true⟩, ⟨Rep.int .i64, a_1, true⟩, ⟨Rep.bool, f_2, true⟩, ⟨Rep.bool, g_3, true⟩] (window_Since_Step_n0 a_1 f_2 g_3) (Rep.bool) := by
  refine fun_ok Try.func37 rfl Try.ntmps37 rfl (all_cons rfl (all_cons rfl (all_cons rfl (all_cons rfl all_nil)))) (fun w0 ok0 => ?_)
  refine den_seq ?_
  refine den_region rfl ?_
  refine o_assign rfl rfl guard_none look_bool (fun _ => rfl) ?_
  refine o_end ?_
  refine den_seq ?_
  refine den_seq ?_
  refine den_region rfl ?_
  refine o_move rfl rfl guard_none (look_tmp rfl) (fun _ => rfl) ?_
  refine o_neql Try.underlying69 rfl rfl guard_none (look_tmp rfl) (fun _ => rfl) ?_
  refine o_move rfl rfl guard_none (look_tmp rfl) (fun _ => rfl) ?_
  refine o_move rfl rfl (guard_some rfl rfl rfl) (look_tmp rfl) (fun _ => rfl) ?_
  refine o_bad (R := Rep.unit) rfl rfl (guard_some rfl rfl rfl) (fun z1 => ?_)
  refine o_bad (R := Rep.unit) rfl rfl (guard_some rfl rfl rfl) (fun z2 => ?_)
  refine o_bad (R := Rep.unit) rfl rfl (guard_some rfl rfl rfl) (fun z3 => ?_)
  refine o_bad (R := Rep.bool) rfl rfl (guard_some rfl rfl rfl) (fun z4 => ?_)
  refine o_not rfl rfl (guard_some rfl rfl rfl) (look_tmp rfl) (fun h => h) ?_
  refine o_pick rfl rfl guard_none (look_tmp rfl) look_bool (look_tmp rfl) (fun _ => rfl) (fun _ _ => rfl) (fun h1 h2 => pick_f ((fun _ => rfl) h1) h2) ?_
  refine o_end ?_
  refine den_cond (look_tmp rfl) ?_ ?_
  · refine den_seq ?_
    refine den_region rfl ?_
    refine o_assign rfl rfl guard_none look_bool (fun _ => rfl) ?_
    refine o_end ?_
    refine den_code_ret ?_
    refine dene_ret ?_
    exact dene_res (res1 rfl (rv_tmp rfl))
  · refine den_skip ?_
    refine den_seq ?_
    refine den_region rfl ?_
    refine o_move rfl rfl guard_none (look_tmp rfl) (fun _ => rfl) ?_
    exact o_none

theorem window_Once_Cells_n0_ok   : FunOk Try.prog 35 [⟨.nilp, (), true⟩] (window_Once_Cells_n0) (Rep.int .i64) := by
  refine fun_ok Try.func35 rfl Try.ntmps35 rfl (all_cons rfl all_nil) (fun w0 ok0 => ?_)
  refine den_seq ?_
  refine den_region rfl ?_
  refine o_assign rfl rfl guard_none (look_int rfl) (fun _ => rfl) ?_
  refine o_end ?_
  refine den_seq ?_
  refine den_seq ?_
  refine den_region rfl ?_
  refine o_move rfl rfl guard_none (look_tmp rfl) (fun _ => rfl) ?_
  refine o_neql Try.underlying61 rfl rfl guard_none (look_tmp rfl) (fun _ => rfl) ?_
  refine o_end ?_
  refine den_condt (look_tmp rfl) ?_
  refine den_seq ?_
  refine den_region rfl ?_
  refine o_assign rfl rfl guard_none (look_int rfl) (fun _ => rfl) ?_
  refine o_end ?_
  refine den_code_ret ?_
  refine dene_ret ?_
  exact dene_res (res1 rfl (rv_tmp rfl))

theorem window_Since_Cells_n0_ok   : FunOk Try.prog 38 [⟨.nilp, (), true⟩] (window_Since_Cells_n0) (Rep.int .i64) := by
  refine fun_ok Try.func38 rfl Try.ntmps38 rfl (all_cons rfl all_nil) (fun w0 ok0 => ?_)
  refine den_seq ?_
  refine den_region rfl ?_
  refine o_assign rfl rfl guard_none (look_int rfl) (fun _ => rfl) ?_
  refine o_end ?_
  refine den_seq ?_
  refine den_seq ?_
  refine den_region rfl ?_
  refine o_move rfl rfl guard_none (look_tmp rfl) (fun _ => rfl) ?_
  refine o_neql Try.underlying69 rfl rfl guard_none (look_tmp rfl) (fun _ => rfl) ?_
  refine o_end ?_
  refine den_condt (look_tmp rfl) ?_
  refine den_seq ?_
  refine den_region rfl ?_
  refine o_assign rfl rfl guard_none (look_int rfl) (fun _ => rfl) ?_
  refine o_end ?_
  refine den_code_ret ?_
  refine dene_ret ?_
  exact dene_res (res1 rfl (rv_tmp rfl))

theorem window_Once_Clone_n0_ok   : FunOk Try.prog 39 [⟨.nilp, (), true⟩] (window_Once_Clone_n0) (Rep.nilp) := by
  refine fun_ok Try.func39 rfl Try.ntmps39 rfl (all_cons rfl all_nil) (fun w0 ok0 => ?_)
  refine den_seq ?_
  refine den_region rfl ?_
  refine o_assign rfl rfl guard_none look_nilp (fun _ => rfl) ?_
  refine o_end ?_
  refine den_seq ?_
  refine den_seq ?_
  refine den_region rfl ?_
  refine o_move rfl rfl guard_none (look_tmp rfl) (fun _ => rfl) ?_
  refine o_neql Try.underlying61 rfl rfl guard_none (look_tmp rfl) (fun _ => rfl) ?_
  refine o_move rfl rfl guard_none (look_tmp rfl) (fun _ => rfl) ?_
  refine o_move rfl rfl (guard_some rfl rfl rfl) (look_tmp rfl) (fun _ => rfl) ?_
  refine o_bad (R := Rep.unit) rfl rfl (guard_some rfl rfl rfl) (fun z1 => ?_)
  refine o_bad (R := Rep.unit) rfl rfl (guard_some rfl rfl rfl) (fun z2 => ?_)
  refine o_bad (R := Rep.unit) rfl rfl (guard_some rfl rfl rfl) (fun z3 => ?_)
  refine o_bad (R := Rep.bool) rfl rfl (guard_some rfl rfl rfl) (fun z4 => ?_)
  refine o_not rfl rfl (guard_some rfl rfl rfl) (look_tmp rfl) (fun h => h) ?_
  refine o_pick rfl rfl guard_none (look_tmp rfl) look_bool (look_tmp rfl) (fun _ => rfl) (fun _ _ => rfl) (fun h1 h2 => pick_f ((fun _ => rfl) h1) h2) ?_
  refine o_end ?_
  refine den_cond (look_tmp rfl) ?_ ?_
  · refine den_seq ?_
    refine den_region rfl ?_
    refine o_assign rfl rfl guard_none look_nilp (fun _ => rfl) ?_
    refine o_end ?_
    refine den_code_ret ?_
    refine dene_ret ?_
    exact dene_res (res1 rfl (rv_tmp rfl))
  · refine den_skip ?_
    refine den_seq ?_
    refine den_region rfl ?_
    refine o_move rfl rfl guard_none (look_tmp rfl) (fun _ => rfl) ?_
    exact o_none

theorem window_Since_Clone_n0_ok   : FunOk Try.prog 40 [⟨.nilp, (), true⟩] (window_Since_Clone_n0) (Rep.nilp) := by
  refine fun_ok Try.func40 rfl Try.ntmps40 rfl (all_cons rfl all_nil) (fun w0 ok0 => ?_)
  refine den_seq ?_
  refine den_region rfl ?_
  refine o_assign rfl rfl guard_none look_nilp (fun _ => rfl) ?_
  refine o_end ?_
  refine den_seq ?_
  refine den_seq ?_
  refine den_region rfl ?_
  refine o_move rfl rfl guard_none (look_tmp rfl) (fun _ => rfl) ?_
  refine o_neql Try.underlying69 rfl rfl guard_none (look_tmp rfl) (fun _ => rfl) ?_
  refine o_move rfl rfl guard_none (look_tmp rfl) (fun _ => rfl) ?_
  refine o_move rfl rfl (guard_some rfl rfl rfl) (look_tmp rfl) (fun _ => rfl) ?_
  refine o_bad (R := Rep.unit) rfl rfl (guard_some rfl rfl rfl) (fun z1 => ?_)
  refine o_bad (R := Rep.unit) rfl rfl (guard_some rfl rfl rfl) (fun z2 => ?_)
  refine o_bad (R := Rep.unit) rfl rfl (guard_some rfl rfl rfl) (fun z3 => ?_)
  refine o_bad (R := Rep.bool) rfl rfl (guard_some rfl rfl rfl) (fun z4 => ?_)
  refine o_not rfl rfl (guard_some rfl rfl rfl) (look_tmp rfl) (fun h => h) ?_
  refine o_pick rfl rfl guard_none (look_tmp rfl) look_bool (look_tmp rfl) (fun _ => rfl) (fun _ _ => rfl) (fun h1 h2 => pick_f ((fun _ => rfl) h1) h2) ?_
  refine o_end ?_
  refine den_cond (look_tmp rfl) ?_ ?_
  · refine den_seq ?_
    refine den_region rfl ?_
    refine o_assign rfl rfl guard_none look_nilp (fun _ => rfl) ?_
    refine o_end ?_
    refine den_code_ret ?_
    refine dene_ret ?_
    exact dene_res (res1 rfl (rv_tmp rfl))
  · refine den_skip ?_
    refine den_seq ?_
    refine den_region rfl ?_
    refine o_move rfl rfl guard_none (look_tmp rfl) (fun _ => rfl) ?_
    exact o_none

theorem window_span_apart_ok (blk0 : Nat) (off0 : Nat) (val0_0 : Value) (p_0 : T_window_span) : FunOkI Try.prog 59 [⟨.addr, (blk0, off0), true⟩] [.rvec val0_0 (T_deque_Cell_rep) p_0.was.cells, .obj false blk0 off0 (.dat (T_window_span_repo val0_0)) p_0] (window_span_apart p_0) (Rep.dep (fun a : Value => (T_window_span_repo a)) 7 aggv true (fun _ => rfl) (fun _ => rfl) (fun _ => rfl)) (fun (α : Value) (y : T_window_span) => (α, y)) (fun α y => [.vec α (T_deque_Cell_rep) y.was.cells]) := by
  refine fun_okI Try.func59 rfl Try.ntmps59 rfl (all_cons rfl all_nil) (fun w0 ok0 M => ?_)
  refine den_seq ?_
  refine den_region rfl ?_
  refine o_weak (sub_nilvec (R := T_deque_Cell_rep) rfl) ?_
  refine o_alloc zeroo77 rfl rfl (fun z1 => ?_)
  refine o_end ?_
  refine den_seq ?_
  refine den_region rfl ?_
  refine o_move rfl rfl guard_none (look_tmp rfl) (fun _ => rfl) ?_
  refine o_nilc rfl rfl guard_none (look_tmp rfl) (fun _ => rfl) ?_
  refine o_oloadi 3 rfl (typeo77 val0_0) foc_self rfl guard_none (look_tmp rfl) (fun _ => rfl) ?_
  refine o_weak (sub_nilvec (R := T_deque_Cell_rep) rfl) ?_
  refine o_alloc zeroo77 rfl rfl (fun z2 => ?_)
  refine o_wstore (typeo77 val0_0) (foc2_self rfl (fun h => h)) (look_tmp rfl) rfl (look_tmp rfl) rfl ?_
  refine o_end ?_
  refine den_seq ?_
  refine den_region rfl ?_
  refine o_move rfl rfl guard_none (look_tmp rfl) (fun _ => rfl) ?_
  refine o_nilc rfl rfl guard_none (look_tmp rfl) (fun _ => rfl) ?_
  refine o_faddr field77_4 type29 (by decide) rfl rfl guard_none (look_tmp rfl) (fun _ => rfl) ?_
  refine o_weak (H' := [.obj false blk0 off0 (.dat (T_window_span_repo val0_0)) p_0, .obj true z2 0 (.dat (T_window_span_repo val0_0)) p_0, .vec (Value.slice none 0 0) (T_deque_Cell_rep) T_window_span_zero.was.cells, .obj true z1 0 (.dat (T_window_span_repo (Value.slice none 0 0))) T_window_span_zero, .vec (Value.slice none 0 0) (T_deque_Cell_rep) T_window_span_zero.was.cells, .rvec val0_0 (T_deque_Cell_rep) p_0.was.cells]) (sub_pick [5, 0, 1, 2, 3, 4] rfl rfl) ?_
  refine o_weak (sub_part (R' := (T_window_span_repo val0_0)) (S' := (T_deque_Deque_repo val0_0)) (T_window_span_focw4 val0_0 val0_0) rfl) ?_
  refine o_weak (H' := [.obj false blk0 (off0 + 4) (.dat (T_deque_Deque_repo val0_0)) p_0.was, .hole false blk0 off0 4 ((T_deque_Deque_repo val0_0)).size (T_window_span_repo val0_0) p_0, .obj true z2 0 (.dat (T_window_span_repo val0_0)) p_0, .vec (Value.slice none 0 0) (T_deque_Cell_rep) T_window_span_zero.was.cells, .obj true z1 0 (.dat (T_window_span_repo (Value.slice none 0 0))) T_window_span_zero, .vec (Value.slice none 0 0) (T_deque_Cell_rep) T_window_span_zero.was.cells, .rvec val0_0 (T_deque_Cell_rep) p_0.was.cells]) (sub_pick [0, 1, 2, 3, 4, 5, 6] rfl rfl) ?_
  refine o_weak (H' := [] ++ ([.rvec val0_0 (T_deque_Cell_rep) p_0.was.cells, .obj false blk0 (off0 + 4) (.dat (T_deque_Deque_repo val0_0)) p_0.was] ++ [.hole false blk0 off0 4 ((T_deque_Deque_repo val0_0)).size (T_window_span_repo val0_0) p_0, .obj true z2 0 (.dat (T_window_span_repo val0_0)) p_0, .vec (Value.slice none 0 0) (T_deque_Cell_rep) T_window_span_zero.was.cells, .obj true z1 0 (.dat (T_window_span_repo (Value.slice none 0 0))) T_window_span_zero, .vec (Value.slice none 0 0) (T_deque_Cell_rep) T_window_span_zero.was.cells])) (sub_pick [6, 0, 1, 2, 3, 4, 5] rfl rfl) ?_
  refine o_callU rfl rfl rfl rfl rfl callable20 (looks_cons (look_tmp rfl) (fun _ => rfl) (looks_nil)) (.rvec (.cons .nil)) (deque_Deque_Clone_ok _ _ _ p_0.was) (fun _ _ => (wr_v (wr_c wr_n))) (fun z4α z3 => ?_)
  obtain ⟨⟨z5, z6⟩, z7⟩ := z4α
  refine o_weak (H' := [.vec z7 (T_deque_Cell_rep) z3.cells, .obj true z5 z6 (.dat (T_deque_Deque_repo z7)) z3, .rvec val0_0 (T_deque_Cell_rep) p_0.was.cells, .obj false blk0 (off0 + 4) (.dat (T_deque_Deque_repo val0_0)) p_0.was, .hole false blk0 off0 4 ((T_deque_Deque_repo val0_0)).size (T_window_span_repo val0_0) p_0, .obj true z2 0 (.dat (T_window_span_repo val0_0)) p_0, .vec (Value.slice none 0 0) (T_deque_Cell_rep) T_window_span_zero.was.cells, .obj true z1 0 (.dat (T_window_span_repo (Value.slice none 0 0))) T_window_span_zero, .vec (Value.slice none 0 0) (T_deque_Cell_rep) T_window_span_zero.was.cells]) (sub_pick [0, 1, 2, 3, 4, 5, 6, 7, 8] rfl rfl) ?_
  refine o_weak (H' := [.obj false blk0 (off0 + 4) (.dat (T_deque_Deque_repo val0_0)) p_0.was, .hole false blk0 off0 4 ((T_deque_Deque_repo val0_0)).size (T_window_span_repo val0_0) p_0, .vec z7 (T_deque_Cell_rep) z3.cells, .obj true z5 z6 (.dat (T_deque_Deque_repo z7)) z3, .rvec val0_0 (T_deque_Cell_rep) p_0.was.cells, .obj true z2 0 (.dat (T_window_span_repo val0_0)) p_0, .vec (Value.slice none 0 0) (T_deque_Cell_rep) T_window_span_zero.was.cells, .obj true z1 0 (.dat (T_window_span_repo (Value.slice none 0 0))) T_window_span_zero, .vec (Value.slice none 0 0) (T_deque_Cell_rep) T_window_span_zero.was.cells]) (sub_pick [3, 4, 0, 1, 2, 5, 6, 7, 8] rfl rfl) ?_
  refine o_weak (sub_whole (T_window_span_focw4 val0_0 val0_0)) ?_
  refine o_weak (H' := [.obj false blk0 off0 (.dat (T_window_span_repo val0_0)) p_0, .vec z7 (T_deque_Cell_rep) z3.cells, .obj true z5 z6 (.dat (T_deque_Deque_repo z7)) z3, .rvec val0_0 (T_deque_Cell_rep) p_0.was.cells, .obj true z2 0 (.dat (T_window_span_repo val0_0)) p_0, .vec (Value.slice none 0 0) (T_deque_Cell_rep) T_window_span_zero.was.cells, .obj true z1 0 (.dat (T_window_span_repo (Value.slice none 0 0))) T_window_span_zero, .vec (Value.slice none 0 0) (T_deque_Cell_rep) T_window_span_zero.was.cells]) (sub_pick [0, 1, 2, 3, 4, 5, 6, 7] rfl rfl) ?_
  refine o_nilc rfl rfl guard_none (look_tmp rfl) (fun _ => rfl) ?_
  refine o_oloadi 2 rfl (typeo29 z7) foc_self rfl guard_none (look_tmp rfl) (fun _ => rfl) ?_
  refine o_faddr field77_4 type29 (by decide) rfl rfl guard_none (look_tmp rfl) (fun _ => rfl) ?_
  refine o_weak (H' := [.obj true z2 0 (.dat (T_window_span_repo val0_0)) p_0, .obj false blk0 off0 (.dat (T_window_span_repo val0_0)) p_0, .vec z7 (T_deque_Cell_rep) z3.cells, .obj true z5 z6 (.dat (T_deque_Deque_repo z7)) z3, .rvec val0_0 (T_deque_Cell_rep) p_0.was.cells, .vec (Value.slice none 0 0) (T_deque_Cell_rep) T_window_span_zero.was.cells, .obj true z1 0 (.dat (T_window_span_repo (Value.slice none 0 0))) T_window_span_zero, .vec (Value.slice none 0 0) (T_deque_Cell_rep) T_window_span_zero.was.cells]) (sub_pick [4, 0, 1, 2, 3, 5, 6, 7] rfl rfl) ?_
  refine o_wstore (typeo29 z7) (T_window_span_focw4 val0_0 z7) (look_tmp rfl) rfl (look_tmp rfl) rfl ?_
  refine o_end ?_
  refine den_seq ?_
  refine den_region rfl ?_
  refine o_oloadi 0 rfl (typeo77 z7) foc_self rfl guard_none (look_tmp rfl) (fun _ => rfl) ?_
  refine o_weak (H' := [.obj true z1 0 (.dat (T_window_span_repo (Value.slice none 0 0))) T_window_span_zero, .obj true z2 0 (.dat (T_window_span_repo z7)) ({ p_0 with was := z3 }), .obj false blk0 off0 (.dat (T_window_span_repo val0_0)) p_0, .vec z7 (T_deque_Cell_rep) z3.cells, .obj true z5 z6 (.dat (T_deque_Deque_repo z7)) z3, .rvec val0_0 (T_deque_Cell_rep) p_0.was.cells, .vec (Value.slice none 0 0) (T_deque_Cell_rep) T_window_span_zero.was.cells, .vec (Value.slice none 0 0) (T_deque_Cell_rep) T_window_span_zero.was.cells]) (sub_pick [6, 0, 1, 2, 3, 4, 5, 7] rfl rfl) ?_
  refine o_wstore (typeo77 z7) (foc2_self rfl (fun h => h)) (look_tmp rfl) rfl (look_tmp rfl) rfl ?_
  refine o_end ?_
  refine den_code_ret ?_
  exact dene_resI z7 (res1 rfl (rv_dep (rv_cell 0 (typeo77 z7) rfl rfl) (fun _ _ _ h => h))) (fun _ _ _ k => ato_pick [3] rfl rfl k)

theorem window_Once_Clone_ok (blk0 : Nat) (off0 : Nat) (val0_0 : Value) (w_0 : T_window_Once) : FunOkI Try.prog 39 [⟨.addr, (blk0, off0), true⟩] [.rvec val0_0 (T_deque_Cell_rep) w_0.span.was.cells, .obj false blk0 off0 (.dat (T_window_Once_repo val0_0)) w_0] (window_Once_Clone w_0) (Rep.optr) (fun (α : ((Nat × Nat) × Value)) (y : (Option T_window_Once)) => (y.map fun _ => α.1)) (fun α y => (optL y fun q => [.vec α.2 (T_deque_Cell_rep) q.span.was.cells, .obj true α.1.1 α.1.2 (.dat (T_window_Once_repo α.2)) q]) ++ []) := by
  refine fun_okI Try.func39 rfl Try.ntmps39 rfl (all_cons rfl all_nil) (fun w0 ok0 M => ?_)
  refine den_seq ?_
  refine den_region rfl ?_
  refine o_assign rfl rfl guard_none look_nilp (fun _ => rfl) ?_
  refine o_end ?_
  refine den_seq ?_
  refine den_seq ?_
  refine den_region rfl ?_
  refine o_move rfl rfl guard_none (look_tmp rfl) (fun _ => rfl) ?_
  refine o_peql Try.underlying61 rfl rfl guard_none (look_tmp rfl) (fun _ => rfl) ?_
  refine o_move rfl rfl guard_none (look_tmp rfl) (fun _ => rfl) ?_
  refine o_move rfl rfl (guard_some rfl rfl rfl) (look_tmp rfl) (fun _ => rfl) ?_
  refine o_nilc rfl rfl (guard_some rfl rfl rfl) (look_tmp rfl) (fun h => h) ?_
  refine o_faddr field79_0 type77 (by decide) rfl rfl (guard_some rfl rfl rfl) (look_tmp rfl) (fun h => h) ?_
  refine o_faddr field77_3 type4 (by decide) rfl rfl (guard_some rfl rfl rfl) (look_tmp rfl) (fun h => h) ?_
  refine o_oloadi 1 rfl type4 (foc_in (T_window_Once_foco0 val0_0) (T_window_span_foco3 val0_0)) rfl (guard_some rfl rfl rfl) (look_tmp rfl) (fun h => h) ?_
  refine o_not rfl rfl (guard_some rfl rfl rfl) (look_tmp rfl) (fun h => h) ?_
  refine o_pick rfl rfl guard_none (look_tmp rfl) look_bool (look_tmp rfl) (fun _ => rfl) (fun _ _ => rfl) (fun h1 h2 => pick_f ((fun _ => rfl) h1) h2) ?_
  refine o_end ?_
  refine den_cond (look_tmp rfl) ?_ ?_
  · refine den_seq ?_
    refine den_region rfl ?_
    refine o_assign rfl rfl guard_none look_nilp (fun _ => rfl) ?_
    refine o_end ?_
    refine den_code_ret ?_
    refine dene_ret ?_
    exact dene_resI ((0, 0), (Value.slice none 0 0)) (res1 rfl (rv_onil rfl)) (fun _ _ _ k => ato_pick [] rfl rfl k)
  · refine den_skip ?_
    refine den_seq ?_
    refine den_region rfl ?_
    refine o_move rfl rfl guard_none (look_tmp rfl) (fun _ => rfl) ?_
    refine o_nilc rfl rfl guard_none (look_tmp rfl) (fun _ => rfl) ?_
    refine o_faddr field79_0 type77 (by decide) rfl rfl guard_none (look_tmp rfl) (fun _ => rfl) ?_
    refine o_weak (H' := [.obj false blk0 off0 (.dat (T_window_Once_repo val0_0)) w_0, .rvec val0_0 (T_deque_Cell_rep) w_0.span.was.cells]) (sub_pick [1, 0] rfl rfl) ?_
    refine o_weak (sub_part (R' := (T_window_Once_repo val0_0)) (S' := (T_window_span_repo val0_0)) (T_window_Once_focw0 val0_0 val0_0) rfl) ?_
    refine o_weak (H' := [.obj false blk0 (off0 + 0) (.dat (T_window_span_repo val0_0)) w_0.span, .hole false blk0 off0 0 ((T_window_span_repo val0_0)).size (T_window_Once_repo val0_0) w_0, .rvec val0_0 (T_deque_Cell_rep) w_0.span.was.cells]) (sub_pick [0, 1, 2] rfl rfl) ?_
    refine o_weak (H' := [] ++ ([.rvec val0_0 (T_deque_Cell_rep) w_0.span.was.cells, .obj false blk0 (off0 + 0) (.dat (T_window_span_repo val0_0)) w_0.span] ++ [.hole false blk0 off0 0 ((T_window_span_repo val0_0)).size (T_window_Once_repo val0_0) w_0])) (sub_pick [2, 0, 1] rfl rfl) ?_
    refine o_callU rfl rfl rfl rfl rfl callable59 (looks_cons (look_tmp rfl) (fun _ => rfl) (looks_nil)) (.rvec (.cons .nil)) (window_span_apart_ok _ _ _ w_0.span) (fun _ _ => (wr_v wr_n)) (fun z2α z1 => ?_)
    refine o_asdep ?_
    refine o_weak (H' := [.vec z2α (T_deque_Cell_rep) z1.was.cells, .rvec val0_0 (T_deque_Cell_rep) w_0.span.was.cells, .obj false blk0 (off0 + 0) (.dat (T_window_span_repo val0_0)) w_0.span, .hole false blk0 off0 0 ((T_window_span_repo val0_0)).size (T_window_Once_repo val0_0) w_0]) (sub_pick [0, 1, 2, 3] rfl rfl) ?_
    refine o_weak (H' := [.obj false blk0 (off0 + 0) (.dat (T_window_span_repo val0_0)) w_0.span, .hole false blk0 off0 0 ((T_window_span_repo val0_0)).size (T_window_Once_repo val0_0) w_0, .vec z2α (T_deque_Cell_rep) z1.was.cells, .rvec val0_0 (T_deque_Cell_rep) w_0.span.was.cells]) (sub_pick [2, 3, 0, 1] rfl rfl) ?_
    refine o_weak (sub_whole (T_window_Once_focw0 val0_0 val0_0)) ?_
    refine o_weak (H' := [.obj false blk0 off0 (.dat (T_window_Once_repo val0_0)) w_0, .vec z2α (T_deque_Cell_rep) z1.was.cells, .rvec val0_0 (T_deque_Cell_rep) w_0.span.was.cells]) (sub_pick [0, 1, 2] rfl rfl) ?_
    refine o_build (R := T_window_Once_repo0 z2α) (f := T_window_Once_tupo) (y := (⟨z1⟩ : T_window_Once)) shape79 rfl rfl rfl rfl guard_none (bld_part rfl rfl (look_tmp rfl) (fun _ => rfl) (bld_nil)) ?_
    refine o_box rfl rfl (look_tmp rfl) rfl (fun z4 => ?_)
    refine o_assign rfl rfl guard_none (look_tmp rfl) (fun _ => rfl) ?_
    refine o_end ?_
    refine den_code_ret ?_
    exact dene_resI ((z4, 0), z2α) (res1 rfl (rv_optr rfl)) (fun _ _ _ k => ato_pick [2, 0] rfl rfl k)

theorem window_Since_Clone_ok (blk0 : Nat) (off0 : Nat) (val0_0 : Value) (w_0 : T_window_Since) : FunOkI Try.prog 40 [⟨.addr, (blk0, off0), true⟩] [.rvec val0_0 (T_deque_Cell_rep) w_0.span.was.cells, .obj false blk0 off0 (.dat (T_window_Since_repo val0_0)) w_0] (window_Since_Clone w_0) (Rep.optr) (fun (α : ((Nat × Nat) × Value)) (y : (Option T_window_Since)) => (y.map fun _ => α.1)) (fun α y => (optL y fun q => [.vec α.2 (T_deque_Cell_rep) q.span.was.cells, .obj true α.1.1 α.1.2 (.dat (T_window_Since_repo α.2)) q]) ++ []) := by
  refine fun_okI Try.func40 rfl Try.ntmps40 rfl (all_cons rfl all_nil) (fun w0 ok0 M => ?_)
  refine den_seq ?_
  refine den_region rfl ?_
  refine o_assign rfl rfl guard_none look_nilp (fun _ => rfl) ?_
  refine o_end ?_
  refine den_seq ?_
  refine den_seq ?_
  refine den_region rfl ?_
  refine o_move rfl rfl guard_none (look_tmp rfl) (fun _ => rfl) ?_
  refine o_peql Try.underlying69 rfl rfl guard_none (look_tmp rfl) (fun _ => rfl) ?_
  refine o_move rfl rfl guard_none (look_tmp rfl) (fun _ => rfl) ?_
  refine o_move rfl rfl (guard_some rfl rfl rfl) (look_tmp rfl) (fun _ => rfl) ?_
  refine o_nilc rfl rfl (guard_some rfl rfl rfl) (look_tmp rfl) (fun h => h) ?_
  refine o_faddr field80_0 type77 (by decide) rfl rfl (guard_some rfl rfl rfl) (look_tmp rfl) (fun h => h) ?_
  refine o_faddr field77_3 type4 (by decide) rfl rfl (guard_some rfl rfl rfl) (look_tmp rfl) (fun h => h) ?_
  refine o_oloadi 1 rfl type4 (foc_in (T_window_Since_foco0 val0_0) (T_window_span_foco3 val0_0)) rfl (guard_some rfl rfl rfl) (look_tmp rfl) (fun h => h) ?_
  refine o_not rfl rfl (guard_some rfl rfl rfl) (look_tmp rfl) (fun h => h) ?_
  refine o_pick rfl rfl guard_none (look_tmp rfl) look_bool (look_tmp rfl) (fun _ => rfl) (fun _ _ => rfl) (fun h1 h2 => pick_f ((fun _ => rfl) h1) h2) ?_
  refine o_end ?_
  refine den_cond (look_tmp rfl) ?_ ?_
  · refine den_seq ?_
    refine den_region rfl ?_
    refine o_assign rfl rfl guard_none look_nilp (fun _ => rfl) ?_
    refine o_end ?_
    refine den_code_ret ?_
    refine dene_ret ?_
    exact dene_resI ((0, 0), (Value.slice none 0 0)) (res1 rfl (rv_onil rfl)) (fun _ _ _ k => ato_pick [] rfl rfl k)
  · refine den_skip ?_
    refine den_seq ?_
    refine den_region rfl ?_
    refine o_move rfl rfl guard_none (look_tmp rfl) (fun _ => rfl) ?_
    refine o_nilc rfl rfl guard_none (look_tmp rfl) (fun _ => rfl) ?_
    refine o_faddr field80_0 type77 (by decide) rfl rfl guard_none (look_tmp rfl) (fun _ => rfl) ?_
    refine o_weak (H' := [.obj false blk0 off0 (.dat (T_window_Since_repo val0_0)) w_0, .rvec val0_0 (T_deque_Cell_rep) w_0.span.was.cells]) (sub_pick [1, 0] rfl rfl) ?_
    refine o_weak (sub_part (R' := (T_window_Since_repo val0_0)) (S' := (T_window_span_repo val0_0)) (T_window_Since_focw0 val0_0 val0_0) rfl) ?_
    refine o_weak (H' := [.obj false blk0 (off0 + 0) (.dat (T_window_span_repo val0_0)) w_0.span, .hole false blk0 off0 0 ((T_window_span_repo val0_0)).size (T_window_Since_repo val0_0) w_0, .rvec val0_0 (T_deque_Cell_rep) w_0.span.was.cells]) (sub_pick [0, 1, 2] rfl rfl) ?_
    refine o_weak (H' := [] ++ ([.rvec val0_0 (T_deque_Cell_rep) w_0.span.was.cells, .obj false blk0 (off0 + 0) (.dat (T_window_span_repo val0_0)) w_0.span] ++ [.hole false blk0 off0 0 ((T_window_span_repo val0_0)).size (T_window_Since_repo val0_0) w_0])) (sub_pick [2, 0, 1] rfl rfl) ?_
    refine o_callU rfl rfl rfl rfl rfl callable59 (looks_cons (look_tmp rfl) (fun _ => rfl) (looks_nil)) (.rvec (.cons .nil)) (window_span_apart_ok _ _ _ w_0.span) (fun _ _ => (wr_v wr_n)) (fun z2α z1 => ?_)
    refine o_asdep ?_
    refine o_weak (H' := [.vec z2α (T_deque_Cell_rep) z1.was.cells, .rvec val0_0 (T_deque_Cell_rep) w_0.span.was.cells, .obj false blk0 (off0 + 0) (.dat (T_window_span_repo val0_0)) w_0.span, .hole false blk0 off0 0 ((T_window_span_repo val0_0)).size (T_window_Since_repo val0_0) w_0]) (sub_pick [0, 1, 2, 3] rfl rfl) ?_
    refine o_weak (H' := [.obj false blk0 (off0 + 0) (.dat (T_window_span_repo val0_0)) w_0.span, .hole false blk0 off0 0 ((T_window_span_repo val0_0)).size (T_window_Since_repo val0_0) w_0, .vec z2α (T_deque_Cell_rep) z1.was.cells, .rvec val0_0 (T_deque_Cell_rep) w_0.span.was.cells]) (sub_pick [2, 3, 0, 1] rfl rfl) ?_
    refine o_weak (sub_whole (T_window_Since_focw0 val0_0 val0_0)) ?_
    refine o_weak (H' := [.obj false blk0 off0 (.dat (T_window_Since_repo val0_0)) w_0, .vec z2α (T_deque_Cell_rep) z1.was.cells, .rvec val0_0 (T_deque_Cell_rep) w_0.span.was.cells]) (sub_pick [0, 1, 2] rfl rfl) ?_
    refine o_build (R := T_window_Since_repo0 z2α) (f := T_window_Since_tupo) (y := (⟨z1⟩ : T_window_Since)) shape80 rfl rfl rfl rfl guard_none (bld_part rfl rfl (look_tmp rfl) (fun _ => rfl) (bld_nil)) ?_
    refine o_box rfl rfl (look_tmp rfl) rfl (fun z4 => ?_)
    refine o_assign rfl rfl guard_none (look_tmp rfl) (fun _ => rfl) ?_
    refine o_end ?_
    refine den_code_ret ?_
    exact dene_resI ((z4, 0), z2α) (res1 rfl (rv_optr rfl)) (fun _ _ _ k => ato_pick [2, 0] rfl rfl k)

theorem law16_WindowNobody_ok  (a_0 : Int) (f_1 : Bool) : FunOk Try.prog 13 [⟨Rep.int .i64, a_0, true⟩, ⟨Rep.bool, f_1, true⟩] (law16_WindowNobody a_0 f_1) (Rep.bool) := by
  refine fun_ok Try.func13 rfl Try.ntmps13 rfl (all_cons rfl (all_cons rfl all_nil)) (fun w0 ok0 => ?_)
  refine den_seq ?_
  refine den_region rfl ?_
  refine o_assign rfl rfl guard_none look_bool (fun _ => rfl) ?_
  refine o_end ?_
  refine den_seq ?_
  refine den_seq ?_
  refine den_region rfl ?_
  refine o_call rfl rfl rfl callable28 (looks_nil) (law16_alive_ok) (fun z1 => ?_)
  refine o_not rfl rfl guard_none (look_tmp rfl) (fun _ => rfl) ?_
  refine o_end ?_
  refine den_cond (look_tmp rfl) ?_ ?_
  · refine den_seq ?_
    refine den_region rfl ?_
    refine o_assign rfl rfl guard_none look_bool (fun _ => rfl) ?_
    refine o_end ?_
    refine den_code_ret ?_
    refine dene_ret ?_
    exact dene_res (res1 rfl (rv_tmp rfl))
  · refine den_skip ?_
    refine den_seq ?_
    refine den_region rfl ?_
    refine o_assign rfl rfl guard_none look_nilp (fun _ => rfl) ?_
    refine o_end ?_
    refine den_seq ?_
    refine den_region rfl ?_
    refine o_assign rfl rfl guard_none look_nilp (fun _ => rfl) ?_
    refine o_end ?_
    refine den_seq ?_
    refine den_region rfl ?_
    refine o_weak (sub_nilvec (R := T_deque_Cell_rep) rfl) ?_
    refine o_build (R := T_window_Once_repo0 (Value.slice none 0 0)) (f := T_window_Once_tupo) (y := (⟨T_window_span_zero⟩ : T_window_Once)) shape79 rfl rfl rfl rfl guard_none (bld_zero (z_iso (z_cons (z_int rfl) (z_cons (z_int rfl) (z_cons (z_int rfl) (z_cons (z_bool rfl) (z_cons (z_iso (z_cons (z_isv rfl) (z_cons (z_int rfl) (z_cons (z_int rfl) z_nil0))) rfl) z_nil0))))) rfl) (bld_nil)) ?_
    refine o_box rfl rfl (look_tmp rfl) rfl (fun z2 => ?_)
    refine o_weak (sub_nilvec (R := T_deque_Cell_rep) rfl) ?_
    refine o_build (R := T_window_Since_repo0 (Value.slice none 0 0)) (f := T_window_Since_tupo) (y := (⟨T_window_span_zero⟩ : T_window_Since)) shape80 rfl rfl rfl rfl guard_none (bld_zero (z_iso (z_cons (z_int rfl) (z_cons (z_int rfl) (z_cons (z_int rfl) (z_cons (z_bool rfl) (z_cons (z_iso (z_cons (z_isv rfl) (z_cons (z_int rfl) (z_cons (z_int rfl) z_nil0))) rfl) z_nil0))))) rfl) (bld_nil)) ?_
    refine o_box rfl rfl (look_tmp rfl) rfl (fun z3 => ?_)
    refine o_assign rfl rfl guard_none (look_tmp rfl) (fun _ => rfl) ?_
    refine o_assign rfl rfl guard_none (look_tmp rfl) (fun _ => rfl) ?_
    refine o_end ?_
    refine den_seq ?_
    refine den_seq ?_
    refine den_region rfl ?_
    refine o_move rfl rfl guard_none (look_tmp rfl) (fun _ => rfl) ?_
    refine o_move rfl rfl guard_none (look_tmp rfl) (fun _ => rfl) ?_
    refine o_move rfl rfl guard_none (look_tmp rfl) (fun _ => rfl) ?_
    refine o_call rfl rfl rfl callable34 (looks_cons (look_tmp rfl) (fun _ => rfl) (looks_cons (look_tmp rfl) (fun _ => rfl) (looks_cons (look_tmp rfl) (fun _ => rfl) (looks_nil)))) (window_Once_Step_n0_ok _ _) (fun z4 => ?_)
    refine o_move rfl rfl guard_none (look_tmp rfl) (fun _ => rfl) ?_
    refine o_move rfl rfl (guard_some rfl rfl rfl) (look_tmp rfl) (fun _ => rfl) ?_
    refine o_move rfl rfl (guard_some rfl rfl rfl) (look_tmp rfl) (fun _ => rfl) ?_
    refine o_move rfl rfl (guard_some rfl rfl rfl) (look_tmp rfl) (fun _ => rfl) ?_
    refine o_move rfl rfl (guard_some rfl rfl rfl) (look_tmp rfl) (fun _ => rfl) ?_
    refine o_callg rfl rfl rfl (guard_some rfl rfl rfl) callable37 (looks_cons (look_tmp rfl) (fun h => h) (looks_cons (look_tmp rfl) (fun h => h) (looks_cons (look_tmp rfl) (fun h => h) (looks_cons (look_tmp rfl) (fun h => h) (looks_nil))))) (window_Since_Step_n0_ok _ _ _) (fun z5 => ?_)
    refine o_pick rfl rfl guard_none (look_tmp rfl) look_bool (look_tmp rfl) (fun _ => rfl) (fun _ _ => rfl) (fun h1 h2 => pick_f ((fun _ => rfl) h1) h2) ?_
    refine o_move rfl rfl guard_none (look_tmp rfl) (fun _ => rfl) ?_
    refine o_move rfl rfl (guard_some rfl rfl rfl) (look_tmp rfl) (fun _ => rfl) ?_
    refine o_move rfl rfl (guard_some rfl rfl rfl) (look_tmp rfl) (fun _ => rfl) ?_
    refine o_move rfl rfl (guard_some rfl rfl rfl) (look_tmp rfl) (fun _ => rfl) ?_
    refine o_weak (H' := [.obj true z2 0 (.dat (T_window_Once_repo (Value.slice none 0 0))) (⟨T_window_span_zero⟩ : T_window_Once), .obj true z3 0 (.dat (T_window_Since_repo (Value.slice none 0 0))) (⟨T_window_span_zero⟩ : T_window_Since), .vec (Value.slice none 0 0) (T_deque_Cell_rep) ([] : List T_deque_Cell), .vec (Value.slice none 0 0) (T_deque_Cell_rep) ([] : List T_deque_Cell)]) (sub_pick [2, 0, 1, 3] rfl rfl) ?_
    refine o_weak (sub_redat ({ (⟨T_window_span_zero⟩ : T_window_Once) with span := { T_window_span_zero with was := { T_window_span_zero.was with cells := ([] : List T_deque_Cell) } } }) (fun _ _ _ h => h)) ?_
    refine o_weak (H' := [.vec (Value.slice none 0 0) (T_deque_Cell_rep) ([] : List T_deque_Cell), .obj true z2 0 (.dat (T_window_Once_repo (Value.slice none 0 0))) ({ (⟨T_window_span_zero⟩ : T_window_Once) with span := { T_window_span_zero with was := { T_window_span_zero.was with cells := ([] : List T_deque_Cell) } } })] ++ ([] ++ [.obj true z3 0 (.dat (T_window_Since_repo (Value.slice none 0 0))) (⟨T_window_span_zero⟩ : T_window_Since), .vec (Value.slice none 0 0) (T_deque_Cell_rep) ([] : List T_deque_Cell)])) (sub_pick [3, 0, 1, 2] rfl rfl) ?_
    refine o_callX (its := [.vec (Value.slice none 0 0) (T_deque_Cell_rep) ([] : List T_deque_Cell), .obj true z2 0 (.dat (T_window_Once_repo (Value.slice none 0 0))) ({ (⟨T_window_span_zero⟩ : T_window_Once) with span := { T_window_span_zero with was := { T_window_span_zero.was with cells := ([] : List T_deque_Cell) } } })]) ((false, { (⟨T_window_span_zero⟩ : T_window_Once) with span := { T_window_span_zero with was := { T_window_span_zero.was with cells := ([] : List T_deque_Cell) } } }) : (Bool × T_window_Once)) (Value.slice none 0 0) rfl rfl rfl rfl (guard_some rfl rfl rfl) callable34 (looks_cons (look_tmp rfl) (fun h => h) (looks_cons (look_tmp rfl) (fun h => h) (looks_cons (look_tmp rfl) (fun h => h) (looks_nil)))) .nil (window_Once_Step_ok _ _ _ ({ (⟨T_window_span_zero⟩ : T_window_Once) with span := { T_window_span_zero with was := { T_window_span_zero.was with cells := ([] : List T_deque_Cell) } } }) a_0 f_1) (fun _ _ => (wr_v (wr_c wr_n))) ?_ (fun z7α z6 => ?_)
    · exact fun _ => rfl
    refine o_weak (H' := [.vec z7α (T_deque_Cell_rep) z6.2.span.was.cells, .obj true z2 0 (.dat (T_window_Once_repo z7α)) z6.2, .obj true z3 0 (.dat (T_window_Since_repo (Value.slice none 0 0))) (⟨T_window_span_zero⟩ : T_window_Since), .vec (Value.slice none 0 0) (T_deque_Cell_rep) ([] : List T_deque_Cell)]) (sub_pick [0, 1, 2, 3] rfl rfl) ?_
    refine o_pick rfl rfl guard_none (look_tmp rfl) look_bool (look_tmp rfl) (fun _ => rfl) (fun _ _ => rfl) (fun h1 h2 => pick_f ((fun _ => rfl) h1) h2) ?_
    refine o_move rfl rfl guard_none (look_tmp rfl) (fun _ => rfl) ?_
    refine o_move rfl rfl (guard_some rfl rfl rfl) (look_tmp rfl) (fun _ => rfl) ?_
    refine o_move rfl rfl (guard_some rfl rfl rfl) (look_tmp rfl) (fun _ => rfl) ?_
    refine o_move rfl rfl (guard_some rfl rfl rfl) (look_tmp rfl) (fun _ => rfl) ?_
    refine o_move rfl rfl (guard_some rfl rfl rfl) (look_tmp rfl) (fun _ => rfl) ?_
    refine o_weak (H' := [.obj true z3 0 (.dat (T_window_Since_repo (Value.slice none 0 0))) (⟨T_window_span_zero⟩ : T_window_Since), .vec z7α (T_deque_Cell_rep) z6.2.span.was.cells, .obj true z2 0 (.dat (T_window_Once_repo z7α)) z6.2, .vec (Value.slice none 0 0) (T_deque_Cell_rep) ([] : List T_deque_Cell)]) (sub_pick [2, 0, 1, 3] rfl rfl) ?_
    refine o_weak (sub_redat ({ (⟨T_window_span_zero⟩ : T_window_Since) with span := { T_window_span_zero with was := { T_window_span_zero.was with cells := ([] : List T_deque_Cell) } } }) (fun _ _ _ h => h)) ?_
    refine o_weak (H' := [.vec (Value.slice none 0 0) (T_deque_Cell_rep) ([] : List T_deque_Cell), .obj true z3 0 (.dat (T_window_Since_repo (Value.slice none 0 0))) ({ (⟨T_window_span_zero⟩ : T_window_Since) with span := { T_window_span_zero with was := { T_window_span_zero.was with cells := ([] : List T_deque_Cell) } } })] ++ ([] ++ [.vec z7α (T_deque_Cell_rep) z6.2.span.was.cells, .obj true z2 0 (.dat (T_window_Once_repo z7α)) z6.2])) (sub_pick [3, 0, 1, 2] rfl rfl) ?_
    refine o_callX (its := [.vec (Value.slice none 0 0) (T_deque_Cell_rep) ([] : List T_deque_Cell), .obj true z3 0 (.dat (T_window_Since_repo (Value.slice none 0 0))) ({ (⟨T_window_span_zero⟩ : T_window_Since) with span := { T_window_span_zero with was := { T_window_span_zero.was with cells := ([] : List T_deque_Cell) } } })]) ((false, { (⟨T_window_span_zero⟩ : T_window_Since) with span := { T_window_span_zero with was := { T_window_span_zero.was with cells := ([] : List T_deque_Cell) } } }) : (Bool × T_window_Since)) (Value.slice none 0 0) rfl rfl rfl rfl (guard_some rfl rfl rfl) callable37 (looks_cons (look_tmp rfl) (fun h => h) (looks_cons (look_tmp rfl) (fun h => h) (looks_cons (look_tmp rfl) (fun h => h) (looks_cons (look_tmp rfl) (fun h => h) (looks_nil))))) .nil (window_Since_Step_ok _ _ _ ({ (⟨T_window_span_zero⟩ : T_window_Since) with span := { T_window_span_zero with was := { T_window_span_zero.was with cells := ([] : List T_deque_Cell) } } }) a_0 f_1 f_1) (fun _ _ => (wr_v (wr_c wr_n))) ?_ (fun z10α z9 => ?_)
    · exact fun _ => rfl
    refine o_weak (H' := [.vec z10α (T_deque_Cell_rep) z9.2.span.was.cells, .obj true z3 0 (.dat (T_window_Since_repo z10α)) z9.2, .vec z7α (T_deque_Cell_rep) z6.2.span.was.cells, .obj true z2 0 (.dat (T_window_Once_repo z7α)) z6.2]) (sub_pick [0, 1, 2, 3] rfl rfl) ?_
    refine o_pick rfl rfl guard_none (look_tmp rfl) look_bool (look_tmp rfl) (fun _ => rfl) (fun _ _ => rfl) (fun h1 h2 => pick_f ((fun _ => rfl) h1) h2) ?_
    refine o_end ?_
    refine den_cond (look_tmp rfl) ?_ ?_
    · refine den_seq ?_
      refine den_region rfl ?_
      refine o_assign rfl rfl guard_none look_bool (fun _ => rfl) ?_
      refine o_end ?_
      refine den_code_ret ?_
      refine dene_ret ?_
      exact dene_res (res1 rfl (rv_tmp rfl))
    · refine den_skip ?_
      refine den_seq ?_
      refine den_region rfl ?_
      refine o_move rfl rfl guard_none (look_tmp rfl) (fun _ => rfl) ?_
      refine o_call rfl rfl rfl callable35 (looks_cons (look_tmp rfl) (fun _ => rfl) (looks_nil)) (window_Once_Cells_n0_ok) (fun z12 => ?_)
      refine o_eql rfl rfl guard_none (look_tmp rfl) (look_int rfl) (fun _ => rfl) (fun _ => rfl) ?_
      refine o_move rfl rfl guard_none (look_tmp rfl) (fun _ => rfl) ?_
      refine o_move rfl rfl (guard_some rfl rfl rfl) (look_tmp rfl) (fun _ => rfl) ?_
      refine o_callg rfl rfl rfl (guard_some rfl rfl rfl) callable38 (looks_cons (look_tmp rfl) (fun h => h) (looks_nil)) (window_Since_Cells_n0_ok) (fun z13 => ?_)
      refine o_eql rfl rfl (guard_some rfl rfl rfl) (look_tmp rfl) (look_int rfl) (fun h => h) (fun _ => rfl) ?_
      refine o_pick rfl rfl guard_none (look_tmp rfl) (look_tmp rfl) look_bool (fun _ => rfl) (fun h1 h2 => pick_t ((fun _ => rfl) h1) h2) (fun _ _ => rfl) ?_
      refine o_move rfl rfl guard_none (look_tmp rfl) (fun _ => rfl) ?_
      refine o_move rfl rfl (guard_some rfl rfl rfl) (look_tmp rfl) (fun _ => rfl) ?_
      refine o_weak (H' := [] ++ ([.vec z7α (T_deque_Cell_rep) z6.2.span.was.cells, .obj true z2 0 (.dat (T_window_Once_repo z7α)) z6.2] ++ [.vec z10α (T_deque_Cell_rep) z9.2.span.was.cells, .obj true z3 0 (.dat (T_window_Since_repo z10α)) z9.2])) (sub_pick [2, 3, 0, 1] rfl rfl) ?_
      refine o_callX (its := []) (0 : Int) () rfl rfl rfl rfl (guard_some rfl rfl rfl) callable35 (looks_cons (look_tmp rfl) (fun h => h) (looks_nil)) (.vec (.cons .nil)) (window_Once_Cells_ok _ _ _ z6.2) (fun _ _ => wr_n) ?_ (fun z15α z14 => ?_)
      · exact fun _ => rfl
      refine o_weak (H' := [.vec z7α (T_deque_Cell_rep) z6.2.span.was.cells, .obj true z2 0 (.dat (T_window_Once_repo z7α)) z6.2, .vec z10α (T_deque_Cell_rep) z9.2.span.was.cells, .obj true z3 0 (.dat (T_window_Since_repo z10α)) z9.2]) (sub_pick [0, 1, 2, 3] rfl rfl) ?_
      refine o_eql rfl rfl (guard_some rfl rfl rfl) (look_tmp rfl) (look_int rfl) (fun h => h) (fun _ => rfl) ?_
      refine o_pick rfl rfl guard_none (look_tmp rfl) (look_tmp rfl) look_bool (fun _ => rfl) (fun h1 h2 => pick_t ((fun _ => rfl) h1) h2) (fun _ _ => rfl) ?_
      refine o_move rfl rfl guard_none (look_tmp rfl) (fun _ => rfl) ?_
      refine o_move rfl rfl (guard_some rfl rfl rfl) (look_tmp rfl) (fun _ => rfl) ?_
      refine o_weak (H' := [] ++ ([.vec z10α (T_deque_Cell_rep) z9.2.span.was.cells, .obj true z3 0 (.dat (T_window_Since_repo z10α)) z9.2] ++ [.vec z7α (T_deque_Cell_rep) z6.2.span.was.cells, .obj true z2 0 (.dat (T_window_Once_repo z7α)) z6.2])) (sub_pick [2, 3, 0, 1] rfl rfl) ?_
      refine o_callX (its := []) (0 : Int) () rfl rfl rfl rfl (guard_some rfl rfl rfl) callable38 (looks_cons (look_tmp rfl) (fun h => h) (looks_nil)) (.vec (.cons .nil)) (window_Since_Cells_ok _ _ _ z9.2) (fun _ _ => wr_n) ?_ (fun z17α z16 => ?_)
      · exact fun _ => rfl
      refine o_weak (H' := [.vec z10α (T_deque_Cell_rep) z9.2.span.was.cells, .obj true z3 0 (.dat (T_window_Since_repo z10α)) z9.2, .vec z7α (T_deque_Cell_rep) z6.2.span.was.cells, .obj true z2 0 (.dat (T_window_Once_repo z7α)) z6.2]) (sub_pick [0, 1, 2, 3] rfl rfl) ?_
      refine o_eql rfl rfl (guard_some rfl rfl rfl) (look_tmp rfl) (look_int rfl) (fun h => h) (fun _ => rfl) ?_
      refine o_pick rfl rfl guard_none (look_tmp rfl) (look_tmp rfl) look_bool (fun _ => rfl) (fun h1 h2 => pick_t ((fun _ => rfl) h1) h2) (fun _ _ => rfl) ?_
      refine o_move rfl rfl guard_none (look_tmp rfl) (fun _ => rfl) ?_
      refine o_move rfl rfl (guard_some rfl rfl rfl) (look_tmp rfl) (fun _ => rfl) ?_
      refine o_callg rfl rfl rfl (guard_some rfl rfl rfl) callable39 (looks_cons (look_tmp rfl) (fun h => h) (looks_nil)) (window_Once_Clone_n0_ok) (fun z18 => ?_)
      refine o_neql Try.underlying61 rfl rfl (guard_some rfl rfl rfl) (look_tmp rfl) (fun h => h) ?_
      refine o_pick rfl rfl guard_none (look_tmp rfl) (look_tmp rfl) look_bool (fun _ => rfl) (fun h1 h2 => pick_t ((fun _ => rfl) h1) h2) (fun _ _ => rfl) ?_
      refine o_move rfl rfl guard_none (look_tmp rfl) (fun _ => rfl) ?_
      refine o_move rfl rfl (guard_some rfl rfl rfl) (look_tmp rfl) (fun _ => rfl) ?_
      refine o_callg rfl rfl rfl (guard_some rfl rfl rfl) callable40 (looks_cons (look_tmp rfl) (fun h => h) (looks_nil)) (window_Since_Clone_n0_ok) (fun z19 => ?_)
      refine o_neql Try.underlying69 rfl rfl (guard_some rfl rfl rfl) (look_tmp rfl) (fun h => h) ?_
      refine o_pick rfl rfl guard_none (look_tmp rfl) (look_tmp rfl) look_bool (fun _ => rfl) (fun h1 h2 => pick_t ((fun _ => rfl) h1) h2) (fun _ _ => rfl) ?_
      refine o_move rfl rfl guard_none (look_tmp rfl) (fun _ => rfl) ?_
      refine o_move rfl rfl (guard_some rfl rfl rfl) (look_tmp rfl) (fun _ => rfl) ?_
      refine o_weak (H' := [] ++ ([.vec z7α (T_deque_Cell_rep) z6.2.span.was.cells, .obj true z2 0 (.dat (T_window_Once_repo z7α)) z6.2] ++ [.vec z10α (T_deque_Cell_rep) z9.2.span.was.cells, .obj true z3 0 (.dat (T_window_Since_repo z10α)) z9.2])) (sub_pick [2, 3, 0, 1] rfl rfl) ?_
      refine o_callX (its := []) (none : (Option T_window_Once)) ((0, 0), (Value.slice none 0 0)) rfl rfl rfl rfl (guard_some rfl rfl rfl) callable39 (looks_cons (look_tmp rfl) (fun h => h) (looks_nil)) (.vec (.cons .nil)) (window_Once_Clone_ok _ _ _ z6.2) (fun _ _ => (wr_ol (fun _ => (wr_v (wr_c wr_n))) wr_n)) ?_ (fun z21α z20 => ?_)
      · exact fun _ => rfl
      obtain ⟨⟨z22, z23⟩, z24⟩ := z21α
      rcases z20 with _ | z25
      · refine o_weak (H' := [.vec z7α (T_deque_Cell_rep) z6.2.span.was.cells, .obj true z2 0 (.dat (T_window_Once_repo z7α)) z6.2, .vec z10α (T_deque_Cell_rep) z9.2.span.was.cells, .obj true z3 0 (.dat (T_window_Since_repo z10α)) z9.2]) (sub_pick [0, 1, 2, 3] rfl rfl) ?_
        refine o_asnil ?_
        refine o_optn ?_
        refine o_neql Try.underlying61 rfl rfl (guard_some rfl rfl rfl) (look_tmp rfl) (fun h => h) ?_
        refine o_pick rfl rfl guard_none (look_tmp rfl) (look_tmp rfl) look_bool (fun _ => rfl) (fun h1 h2 => pick_t ((fun _ => rfl) h1) h2) (fun _ _ => rfl) ?_
        refine o_move rfl rfl guard_none (look_tmp rfl) (fun _ => rfl) ?_
        refine o_move rfl rfl (guard_some rfl rfl rfl) (look_tmp rfl) (fun _ => rfl) ?_
        refine o_weak (H' := [] ++ ([.vec z10α (T_deque_Cell_rep) z9.2.span.was.cells, .obj true z3 0 (.dat (T_window_Since_repo z10α)) z9.2] ++ [.vec z7α (T_deque_Cell_rep) z6.2.span.was.cells, .obj true z2 0 (.dat (T_window_Once_repo z7α)) z6.2])) (sub_pick [2, 3, 0, 1] rfl rfl) ?_
        refine o_callX (its := []) (none : (Option T_window_Since)) ((0, 0), (Value.slice none 0 0)) rfl rfl rfl rfl (guard_some rfl rfl rfl) callable40 (looks_cons (look_tmp rfl) (fun h => h) (looks_nil)) (.vec (.cons .nil)) (window_Since_Clone_ok _ _ _ z9.2) (fun _ _ => (wr_ol (fun _ => (wr_v (wr_c wr_n))) wr_n)) ?_ (fun z27α z26 => ?_)
        · exact fun _ => rfl
        obtain ⟨⟨z28, z29⟩, z30⟩ := z27α
        rcases z26 with _ | z31
        · refine o_weak (H' := [.vec z10α (T_deque_Cell_rep) z9.2.span.was.cells, .obj true z3 0 (.dat (T_window_Since_repo z10α)) z9.2, .vec z7α (T_deque_Cell_rep) z6.2.span.was.cells, .obj true z2 0 (.dat (T_window_Once_repo z7α)) z6.2]) (sub_pick [0, 1, 2, 3] rfl rfl) ?_
          refine o_asnil ?_
          refine o_optn ?_
          refine o_neql Try.underlying69 rfl rfl (guard_some rfl rfl rfl) (look_tmp rfl) (fun h => h) ?_
          refine o_pick rfl rfl guard_none (look_tmp rfl) (look_tmp rfl) look_bool (fun _ => rfl) (fun h1 h2 => pick_t ((fun _ => rfl) h1) h2) (fun _ _ => rfl) ?_
          refine o_assign rfl rfl guard_none (look_tmp rfl) (fun _ => rfl) ?_
          refine o_lt (fun z32 => ?_)
          refine o_end ?_
          refine den_code_ret ?_
          exact dene_res (res1 rfl (rv_tmp rfl))
        · refine o_weak (H' := [.vec z30 (T_deque_Cell_rep) z31.span.was.cells, .obj true z28 z29 (.dat (T_window_Since_repo z30)) z31, .vec z10α (T_deque_Cell_rep) z9.2.span.was.cells, .obj true z3 0 (.dat (T_window_Since_repo z10α)) z9.2, .vec z7α (T_deque_Cell_rep) z6.2.span.was.cells, .obj true z2 0 (.dat (T_window_Once_repo z7α)) z6.2]) (sub_pick [0, 1, 2, 3, 4, 5] rfl rfl) ?_
          refine o_asptr ?_
          refine o_opts ?_
          refine o_peql Try.underlying69 rfl rfl (guard_some rfl rfl rfl) (look_tmp rfl) (fun h => h) ?_
          refine o_pick rfl rfl guard_none (look_tmp rfl) (look_tmp rfl) look_bool (fun _ => rfl) (fun h1 h2 => pick_t ((fun _ => rfl) h1) h2) (fun _ _ => rfl) ?_
          refine o_assign rfl rfl guard_none (look_tmp rfl) (fun _ => rfl) ?_
          refine o_lt (fun z33 => ?_)
          refine o_end ?_
          refine den_code_ret ?_
          exact dene_res (res1 rfl (rv_tmp rfl))
      · refine o_weak (H' := [.vec z24 (T_deque_Cell_rep) z25.span.was.cells, .obj true z22 z23 (.dat (T_window_Once_repo z24)) z25, .vec z7α (T_deque_Cell_rep) z6.2.span.was.cells, .obj true z2 0 (.dat (T_window_Once_repo z7α)) z6.2, .vec z10α (T_deque_Cell_rep) z9.2.span.was.cells, .obj true z3 0 (.dat (T_window_Since_repo z10α)) z9.2]) (sub_pick [0, 1, 2, 3, 4, 5] rfl rfl) ?_
        refine o_asptr ?_
        refine o_opts ?_
        refine o_peql Try.underlying61 rfl rfl (guard_some rfl rfl rfl) (look_tmp rfl) (fun h => h) ?_
        refine o_pick rfl rfl guard_none (look_tmp rfl) (look_tmp rfl) look_bool (fun _ => rfl) (fun h1 h2 => pick_t ((fun _ => rfl) h1) h2) (fun _ _ => rfl) ?_
        refine o_move rfl rfl guard_none (look_tmp rfl) (fun _ => rfl) ?_
        refine o_move rfl rfl (guard_some rfl rfl rfl) (look_tmp rfl) (fun _ => rfl) ?_
        refine o_weak (H' := [] ++ ([.vec z10α (T_deque_Cell_rep) z9.2.span.was.cells, .obj true z3 0 (.dat (T_window_Since_repo z10α)) z9.2] ++ [.vec z24 (T_deque_Cell_rep) z25.span.was.cells, .obj true z22 z23 (.dat (T_window_Once_repo z24)) z25, .vec z7α (T_deque_Cell_rep) z6.2.span.was.cells, .obj true z2 0 (.dat (T_window_Once_repo z7α)) z6.2])) (sub_pick [4, 5, 0, 1, 2, 3] rfl rfl) ?_
        refine o_callX (its := []) (none : (Option T_window_Since)) ((0, 0), (Value.slice none 0 0)) rfl rfl rfl rfl (guard_some rfl rfl rfl) callable40 (looks_cons (look_tmp rfl) (fun h => h) (looks_nil)) (.vec (.cons .nil)) (window_Since_Clone_ok _ _ _ z9.2) (fun _ _ => (wr_ol (fun _ => (wr_v (wr_c wr_n))) wr_n)) ?_ (fun z35α z34 => ?_)
        · exact fun _ => rfl
        obtain ⟨⟨z36, z37⟩, z38⟩ := z35α
        rcases z34 with _ | z39
        · refine o_weak (H' := [.vec z10α (T_deque_Cell_rep) z9.2.span.was.cells, .obj true z3 0 (.dat (T_window_Since_repo z10α)) z9.2, .vec z24 (T_deque_Cell_rep) z25.span.was.cells, .obj true z22 z23 (.dat (T_window_Once_repo z24)) z25, .vec z7α (T_deque_Cell_rep) z6.2.span.was.cells, .obj true z2 0 (.dat (T_window_Once_repo z7α)) z6.2]) (sub_pick [0, 1, 2, 3, 4, 5] rfl rfl) ?_
          refine o_asnil ?_
          refine o_optn ?_
          refine o_neql Try.underlying69 rfl rfl (guard_some rfl rfl rfl) (look_tmp rfl) (fun h => h) ?_
          refine o_pick rfl rfl guard_none (look_tmp rfl) (look_tmp rfl) look_bool (fun _ => rfl) (fun h1 h2 => pick_t ((fun _ => rfl) h1) h2) (fun _ _ => rfl) ?_
          refine o_assign rfl rfl guard_none (look_tmp rfl) (fun _ => rfl) ?_
          refine o_lt (fun z40 => ?_)
          refine o_end ?_
          refine den_code_ret ?_
          exact dene_res (res1 rfl (rv_tmp rfl))
        · refine o_weak (H' := [.vec z38 (T_deque_Cell_rep) z39.span.was.cells, .obj true z36 z37 (.dat (T_window_Since_repo z38)) z39, .vec z10α (T_deque_Cell_rep) z9.2.span.was.cells, .obj true z3 0 (.dat (T_window_Since_repo z10α)) z9.2, .vec z24 (T_deque_Cell_rep) z25.span.was.cells, .obj true z22 z23 (.dat (T_window_Once_repo z24)) z25, .vec z7α (T_deque_Cell_rep) z6.2.span.was.cells, .obj true z2 0 (.dat (T_window_Once_repo z7α)) z6.2]) (sub_pick [0, 1, 2, 3, 4, 5, 6, 7] rfl rfl) ?_
          refine o_asptr ?_
          refine o_opts ?_
          refine o_peql Try.underlying69 rfl rfl (guard_some rfl rfl rfl) (look_tmp rfl) (fun h => h) ?_
          refine o_pick rfl rfl guard_none (look_tmp rfl) (look_tmp rfl) look_bool (fun _ => rfl) (fun h1 h2 => pick_t ((fun _ => rfl) h1) h2) (fun _ _ => rfl) ?_
          refine o_assign rfl rfl guard_none (look_tmp rfl) (fun _ => rfl) ?_
          refine o_lt (fun z41 => ?_)
          refine o_end ?_
          refine den_code_ret ?_
          exact dene_res (res1 rfl (rv_tmp rfl))

end Go.Proofs.Ytlikbfnaihccmaa.M
