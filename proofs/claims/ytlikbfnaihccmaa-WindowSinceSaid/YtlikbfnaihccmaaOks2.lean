/- That the Go functions answer as the plain ones: written by gen2.py. -/
import Derived.Test.YtlikbfnaihccmaaOks1
namespace Go.Proofs.Ytlikbfnaihccmaa.M
open Go.Eng Go
set_option linter.unusedVariables false

theorem law17_TallyClones_ok  (hi_0 : Int) (more_1 : Int) (a_2 : (List T_law17_Step)) (b_3 : (List T_law17_Step)) : FunOk Try.prog 8 [⟨Rep.int .i64, hi_0, true⟩, ⟨Rep.int .i64, more_1, true⟩, ⟨(T_law17_Step_rep).slice, a_2, true⟩, ⟨(T_law17_Step_rep).slice, b_3, true⟩] (law17_TallyClones hi_0 more_1 a_2 b_3) (Rep.bool) := by
  refine fun_ok Try.func8 rfl Try.ntmps8 rfl (all_cons rfl (all_cons rfl (all_cons rfl (all_cons rfl all_nil)))) (fun w0 ok0 => ?_)
  refine den_seq ?_
  refine den_region rfl ?_
  refine o_assign rfl rfl guard_none look_bool (fun _ => rfl) ?_
  refine o_end ?_
  refine den_seq ?_
  refine den_seq ?_
  refine den_region rfl ?_
  refine o_call rfl rfl rfl callable21 (looks_nil) (law17_alive_ok) (fun z1 => ?_)
  refine o_not rfl rfl guard_none (look_tmp rfl) (fun _ => rfl) ?_
  refine o_end ?_
  refine den_cond (look_tmp rfl) ?_ ?_
  · refine den_seq ?_
    refine den_region rfl ?_
    refine o_assign rfl rfl guard_none look_bool (fun _ => rfl) ?_
    refine o_end ?_
    refine den_code_ret ?_
    refine dene_ret ?_
    exact dene_res (res1 rfl (rv_tmp rfl))
  · refine den_skip ?_
    refine den_seq ?_
    refine den_region rfl ?_
    refine o_move rfl rfl guard_none (look_tmp rfl) (fun _ => rfl) ?_
    refine o_call rfl rfl rfl callable25 (looks_cons (look_tmp rfl) (fun _ => rfl) (looks_nil)) (law17_few_ok _) (fun z2 => ?_)
    refine o_move rfl rfl guard_none (look_tmp rfl) (fun _ => rfl) ?_
    refine o_call rfl rfl rfl callable25 (looks_cons (look_tmp rfl) (fun _ => rfl) (looks_nil)) (law17_few_ok _) (fun z3 => ?_)
    refine o_assign rfl rfl guard_none (look_tmp rfl) (fun _ => rfl) ?_
    refine o_assign rfl rfl guard_none (look_tmp rfl) (fun _ => rfl) ?_
    refine o_end ?_
    refine den_seq ?_
    refine den_region rfl ?_
    refine o_move rfl rfl guard_none (look_tmp rfl) (fun _ => rfl) ?_
    refine o_weak (H' := [] ++ ([] ++ [])) (sub_pick [] rfl rfl) ?_
    refine o_callU rfl rfl rfl rfl rfl callable22 (looks_cons (look_tmp rfl) (fun _ => rfl) (looks_nil)) .nil (tally_New_ok hi_0) (fun _ _ => (wr_v (wr_c wr_n))) (fun z5α z4 => ?_)
    obtain ⟨⟨z6, z7⟩, z8⟩ := z5α
    refine o_weak (H' := [.vec z8 (T_deque_Cell_rep) z4.was.cells, .obj true z6 z7 (.dat (T_tally_Tally_repo z8)) z4]) (sub_pick [0, 1] rfl rfl) ?_
    refine o_move rfl rfl guard_none (look_tmp rfl) (fun _ => rfl) ?_
    refine o_weak (H' := [] ++ ([] ++ [.vec z8 (T_deque_Cell_rep) z4.was.cells, .obj true z6 z7 (.dat (T_tally_Tally_repo z8)) z4])) (sub_pick [0, 1] rfl rfl) ?_
    refine o_callU rfl rfl rfl rfl rfl callable22 (looks_cons (look_tmp rfl) (fun _ => rfl) (looks_nil)) .nil (tally_New_ok hi_0) (fun _ _ => (wr_v (wr_c wr_n))) (fun z10α z9 => ?_)
    obtain ⟨⟨z11, z12⟩, z13⟩ := z10α
    refine o_weak (H' := [.vec z13 (T_deque_Cell_rep) z9.was.cells, .obj true z11 z12 (.dat (T_tally_Tally_repo z13)) z9, .vec z8 (T_deque_Cell_rep) z4.was.cells, .obj true z6 z7 (.dat (T_tally_Tally_repo z8)) z4]) (sub_pick [0, 1, 2, 3] rfl rfl) ?_
    refine o_move rfl rfl guard_none (look_tmp rfl) (fun _ => rfl) ?_
    refine o_move rfl rfl guard_none (look_tmp rfl) (fun _ => rfl) ?_
    refine o_max2 rfl rfl guard_none (look_tmp rfl) (look_tmp rfl) (fun _ => rfl) (fun _ => rfl) ?_
    refine o_weak (H' := [] ++ ([] ++ [.vec z13 (T_deque_Cell_rep) z9.was.cells, .obj true z11 z12 (.dat (T_tally_Tally_repo z13)) z9, .vec z8 (T_deque_Cell_rep) z4.was.cells, .obj true z6 z7 (.dat (T_tally_Tally_repo z8)) z4])) (sub_pick [0, 1, 2, 3] rfl rfl) ?_
    refine o_callU rfl rfl rfl rfl rfl callable22 (looks_cons (look_tmp rfl) (fun _ => rfl) (looks_nil)) .nil (tally_New_ok (max hi_0 more_1)) (fun _ _ => (wr_v (wr_c wr_n))) (fun z15α z14 => ?_)
    obtain ⟨⟨z16, z17⟩, z18⟩ := z15α
    refine o_weak (H' := [.vec z18 (T_deque_Cell_rep) z14.was.cells, .obj true z16 z17 (.dat (T_tally_Tally_repo z18)) z14, .vec z13 (T_deque_Cell_rep) z9.was.cells, .obj true z11 z12 (.dat (T_tally_Tally_repo z13)) z9, .vec z8 (T_deque_Cell_rep) z4.was.cells, .obj true z6 z7 (.dat (T_tally_Tally_repo z8)) z4]) (sub_pick [0, 1, 2, 3, 4, 5] rfl rfl) ?_
    refine o_assign rfl rfl guard_none (look_tmp rfl) (fun _ => rfl) ?_
    refine o_assign rfl rfl guard_none (look_tmp rfl) (fun _ => rfl) ?_
    refine o_assign rfl rfl guard_none (look_tmp rfl) (fun _ => rfl) ?_
    refine o_end ?_
    refine den_seq ?_
    refine den_seq ?_
    refine den_region rfl ?_
    refine o_assign rfl rfl guard_none (look_int rfl) (fun _ => rfl) ?_
    refine o_end ?_
    refine den_bothA (A := (Value × Value)) (fun z19α z19 => [(3, ⟨(T_law17_Step_rep).slice, z3, true⟩), (9, ⟨Rep.addr, (z6, z7), true⟩), (10, ⟨Rep.addr, (z11, z12), true⟩)]) (fun z19α z19 => [.vec z19α.1 (T_deque_Cell_rep) z19.1.was.cells, .obj true z11 z12 (.dat (T_tally_Tally_repo z19α.1)) z19.1, .vec z19α.2 (T_deque_Cell_rep) z19.2.was.cells, .obj true z6 z7 (.dat (T_tally_Tally_repo z19α.2)) z19.2]) ?_ (fun z19α z19 => ?_)
    · refine den_block ?_
      refine den_loopA (A := (Value × Value × Value)) (law17_TallyClones_L3b z2) (fun z98α z98 => [(12, ⟨Rep.int .i64, z98.1, true⟩), (2, ⟨(T_law17_Step_rep).slice, z2, true⟩), (3, ⟨(T_law17_Step_rep).slice, z3, true⟩), (9, ⟨Rep.addr, (z6, z7), true⟩), (10, ⟨Rep.addr, (z11, z12), true⟩), (11, ⟨Rep.addr, (z16, z17), true⟩)]) (fun z98α z98 => [.vec z98α.1 (T_deque_Cell_rep) z98.2.1.was.cells, .obj true z16 z17 (.dat (T_tally_Tally_repo z98α.1)) z98.2.1, .vec z98α.2.1 (T_deque_Cell_rep) z98.2.2.1.was.cells, .obj true z11 z12 (.dat (T_tally_Tally_repo z98α.2.1)) z98.2.2.1, .vec z98α.2.2 (T_deque_Cell_rep) z98.2.2.2.was.cells, .obj true z6 z7 (.dat (T_tally_Tally_repo z98α.2.2)) z98.2.2.2]) (0, z14, z9, z4) (z18, z13, z8) (fun z98α z98 => ?_) ((sub_env (sube_cons rfl (sube_cons rfl (sube_cons rfl (sube_cons rfl (sube_cons rfl (sube_cons rfl (sube_nil)))))))))
      refine den_seq ?_
      refine den_seq ?_
      refine den_region rfl ?_
      refine o_move rfl rfl guard_none (look_tmp rfl) (fun _ => rfl) ?_
      refine o_move rfl rfl guard_none (look_tmp rfl) (fun _ => rfl) ?_
      refine o_llen Try.underlying44 rfl rfl guard_none (look_tmp rfl) (fun _ => rfl) ?_
      refine o_lss rfl rfl guard_none (look_tmp rfl) (look_tmp rfl) (fun _ => rfl) (fun _ => rfl) ?_
      refine o_end ?_
      refine den_cond (look_tmp rfl) ?_ ?_
      · refine den_skip ?_
        refine den_seq ?_
        refine den_block ?_
        refine den_seq ?_
        refine den_open (fun z100 h_z100 => ?_)
        refine den_open (fun z101 h_z101 => ?_)
        refine den_open (fun z102 h_z102 => ?_)
        refine den_open (fun z104 h_z104 => ?_)
        refine den_open (fun z105 h_z105 => ?_)
        refine den_open (fun z106 h_z106 => ?_)
        refine den_open (fun z108 h_z108 => ?_)
        refine den_open (fun z109 h_z109 => ?_)
        refine den_open (fun z110 h_z110 => ?_)
        have hB : ∀ (z99α : (Value × Value × Value)) (S : Nat → Bool) (b11 b23 b35 : Bool), S 11 = b11 → S 23 = b23 → S 35 = b35 → (([(cond (S 35) (.gone) (.vec z98α.1 (T_deque_Cell_rep) z98.2.1.was.cells)), (cond (S 35) (.obj true z16 z17 (.dat (T_tally_Tally_repo z99α.2.2)) z110.2) (.obj true z16 z17 (.dat (T_tally_Tally_repo z98α.1)) z98.2.1)), (cond (S 23) (.gone) (.vec z98α.2.1 (T_deque_Cell_rep) z98.2.2.1.was.cells)), (cond (S 23) (.obj true z11 z12 (.dat (T_tally_Tally_repo z99α.2.1)) z106.2) (.obj true z11 z12 (.dat (T_tally_Tally_repo z98α.2.1)) z98.2.2.1)), (cond (S 11) (.gone) (.vec z98α.2.2 (T_deque_Cell_rep) z98.2.2.2.was.cells)), (cond (S 11) (.obj true z6 z7 (.dat (T_tally_Tally_repo z99α.1)) z102.2) (.obj true z6 z7 (.dat (T_tally_Tally_repo z98α.2.2)) z98.2.2.2)), (cond (S 11) (.vec (z99α.1) (T_deque_Cell_rep) z102.2.was.cells) (.gone)), (cond (S 23) (.vec (z99α.2.1) (T_deque_Cell_rep) z106.2.was.cells) (.gone)), (cond (S 35) (.vec (z99α.2.2) (T_deque_Cell_rep) z110.2.was.cells) (.gone))] : List Go.Eng.Item)) = ([(cond b35 (.gone) (.vec z98α.1 (T_deque_Cell_rep) z98.2.1.was.cells)), (cond b35 (.obj true z16 z17 (.dat (T_tally_Tally_repo z99α.2.2)) z110.2) (.obj true z16 z17 (.dat (T_tally_Tally_repo z98α.1)) z98.2.1)), (cond b23 (.gone) (.vec z98α.2.1 (T_deque_Cell_rep) z98.2.2.1.was.cells)), (cond b23 (.obj true z11 z12 (.dat (T_tally_Tally_repo z99α.2.1)) z106.2) (.obj true z11 z12 (.dat (T_tally_Tally_repo z98α.2.1)) z98.2.2.1)), (cond b11 (.gone) (.vec z98α.2.2 (T_deque_Cell_rep) z98.2.2.2.was.cells)), (cond b11 (.obj true z6 z7 (.dat (T_tally_Tally_repo z99α.1)) z102.2) (.obj true z6 z7 (.dat (T_tally_Tally_repo z98α.2.2)) z98.2.2.2)), (cond b11 (.vec (z99α.1) (T_deque_Cell_rep) z102.2.was.cells) (.gone)), (cond b23 (.vec (z99α.2.1) (T_deque_Cell_rep) z106.2.was.cells) (.gone)), (cond b35 (.vec (z99α.2.2) (T_deque_Cell_rep) z110.2.was.cells) (.gone))] : List Go.Eng.Item) := fun z99α S b11 b23 b35 h11 h23 h35 => by subst h11; subst h23; subst h35; rfl
        refine den_weak sub_gone ?_
        refine den_weak sub_gone ?_
        refine den_weak sub_gone ?_
        refine den_weak (sub_pick (H' := [.vec z98α.1 (T_deque_Cell_rep) z98.2.1.was.cells, .obj true z16 z17 (.dat (T_tally_Tally_repo z98α.1)) z98.2.1, .vec z98α.2.1 (T_deque_Cell_rep) z98.2.2.1.was.cells, .obj true z11 z12 (.dat (T_tally_Tally_repo z98α.2.1)) z98.2.2.1, .vec z98α.2.2 (T_deque_Cell_rep) z98.2.2.2.was.cells, .obj true z6 z7 (.dat (T_tally_Tally_repo z98α.2.2)) z98.2.2.2, .gone, .gone, .gone]) [3, 4, 5, 6, 7, 8, 0, 1, 2] rfl rfl) ?_
        refine den_drawA (A := (Value × Value × Value)) (H' := fun z99α => [.gone, .obj true z16 z17 (.dat (T_tally_Tally_repo z99α.2.2)) z110.2, .gone, .obj true z11 z12 (.dat (T_tally_Tally_repo z99α.2.1)) z106.2, .gone, .obj true z6 z7 (.dat (T_tally_Tally_repo z99α.1)) z102.2, .vec (z99α.1) (T_deque_Cell_rep) z102.2.was.cells, .vec (z99α.2.1) (T_deque_Cell_rep) z106.2.was.cells, .vec (z99α.2.2) (T_deque_Cell_rep) z110.2.was.cells]) (fun z99α => [(42, ⟨Rep.addr, (z6, z7), true⟩), (43, ⟨(T_law17_Step_rep).slice, z2, true⟩), (44, ⟨Rep.int .i64, z98.1, true⟩), (45, ⟨(T_law17_Step_rep).ptrTo, z100, true⟩), (46, ⟨(Rep.int .i64).ptrTo, z100.At, true⟩), (47, ⟨Rep.int .i64, z100.At, true⟩), (48, ⟨(T_law17_Step_rep).slice, z2, true⟩), (49, ⟨Rep.int .i64, z98.1, true⟩), (50, ⟨(T_law17_Step_rep).ptrTo, z101, true⟩), (51, ⟨(Rep.bool).ptrTo, z101.Is, true⟩), (52, ⟨Rep.bool, z101.Is, true⟩), (53, ⟨Rep.int .i64, z102.1, true⟩), (54, ⟨Rep.addr, (z11, z12), true⟩), (55, ⟨(T_law17_Step_rep).slice, z2, true⟩), (56, ⟨Rep.int .i64, z98.1, true⟩), (57, ⟨(T_law17_Step_rep).ptrTo, z104, true⟩), (58, ⟨(Rep.int .i64).ptrTo, z104.At, true⟩), (59, ⟨Rep.int .i64, z104.At, true⟩), (60, ⟨(T_law17_Step_rep).slice, z2, true⟩), (61, ⟨Rep.int .i64, z98.1, true⟩), (62, ⟨(T_law17_Step_rep).ptrTo, z105, true⟩), (63, ⟨(Rep.bool).ptrTo, z105.Is, true⟩), (64, ⟨Rep.bool, z105.Is, true⟩), (65, ⟨Rep.int .i64, z106.1, true⟩), (66, ⟨Rep.addr, (z16, z17), true⟩), (67, ⟨(T_law17_Step_rep).slice, z2, true⟩), (68, ⟨Rep.int .i64, z98.1, true⟩), (69, ⟨(T_law17_Step_rep).ptrTo, z108, true⟩), (70, ⟨(Rep.int .i64).ptrTo, z108.At, true⟩), (71, ⟨Rep.int .i64, z108.At, true⟩), (72, ⟨(T_law17_Step_rep).slice, z2, true⟩), (73, ⟨Rep.int .i64, z98.1, true⟩), (74, ⟨(T_law17_Step_rep).ptrTo, z109, true⟩), (75, ⟨(Rep.bool).ptrTo, z109.Is, true⟩), (76, ⟨Rep.bool, z109.Is, true⟩), (77, ⟨Rep.int .i64, z110.1, true⟩), (13, ⟨Rep.int .i64, z102.1, true⟩), (14, ⟨Rep.int .i64, z106.1, true⟩), (15, ⟨Rep.int .i64, z110.1, true⟩)]) (fun z99α S => [(cond (S 35) (.gone) (.vec z98α.1 (T_deque_Cell_rep) z98.2.1.was.cells)), (cond (S 35) (.obj true z16 z17 (.dat (T_tally_Tally_repo z99α.2.2)) z110.2) (.obj true z16 z17 (.dat (T_tally_Tally_repo z98α.1)) z98.2.1)), (cond (S 23) (.gone) (.vec z98α.2.1 (T_deque_Cell_rep) z98.2.2.1.was.cells)), (cond (S 23) (.obj true z11 z12 (.dat (T_tally_Tally_repo z99α.2.1)) z106.2) (.obj true z11 z12 (.dat (T_tally_Tally_repo z98α.2.1)) z98.2.2.1)), (cond (S 11) (.gone) (.vec z98α.2.2 (T_deque_Cell_rep) z98.2.2.2.was.cells)), (cond (S 11) (.obj true z6 z7 (.dat (T_tally_Tally_repo z99α.1)) z102.2) (.obj true z6 z7 (.dat (T_tally_Tally_repo z98α.2.2)) z98.2.2.2)), (cond (S 11) (.vec (z99α.1) (T_deque_Cell_rep) z102.2.was.cells) (.gone)), (cond (S 23) (.vec (z99α.2.1) (T_deque_Cell_rep) z106.2.was.cells) (.gone)), (cond (S 35) (.vec (z99α.2.2) (T_deque_Cell_rep) z110.2.was.cells) (.gone))]) ((Value.slice none 0 0), (Value.slice none 0 0), (Value.slice none 0 0)) mixed (fun _ => rfl) rfl rfl (fun z99α S hS => hB z99α S true true true (hS 11 (by decide)) (hS 23 (by decide)) (hS 35 (by decide))) ⟨?_, ?_, ?_, ?_, ?_, ?_, ?_, ?_, ?_, ?_, ?_, ?_, ?_, ?_, ?_, ?_, ?_, ?_, ?_, ?_, ?_, ?_, ?_, ?_, ?_, ?_, ?_, ?_, ?_, ?_, ?_, ?_, ?_, ?_, ?_, ?_, ?_, ?_, ?_, trivial⟩ (fun z99α => ?_)
        · intro z99α S hc hk hp
          have e11 : S 11 = false := (not_yet (j := 11) (q := 0) hc hk rfl rfl rfl rfl)
          have e23 : S 23 = false := (not_yet (j := 23) (q := 3) hc (not_yet (j := 11) (q := 0) hc hk rfl rfl rfl rfl) rfl rfl rfl rfl)
          have e35 : S 35 = false := (not_yet (j := 35) (q := 3) hc (not_yet (j := 23) (q := 3) hc (not_yet (j := 11) (q := 0) hc hk rfl rfl rfl rfl) rfl rfl rfl rfl) rfl rfl rfl rfl)
          refine eq_H (H' := [.vec z98α.1 (T_deque_Cell_rep) z98.2.1.was.cells, .obj true z16 z17 (.dat (T_tally_Tally_repo z98α.1)) z98.2.1, .vec z98α.2.1 (T_deque_Cell_rep) z98.2.2.1.was.cells, .obj true z11 z12 (.dat (T_tally_Tally_repo z98α.2.1)) z98.2.2.1, .vec z98α.2.2 (T_deque_Cell_rep) z98.2.2.2.was.cells, .obj true z6 z7 (.dat (T_tally_Tally_repo z98α.2.2)) z98.2.2.2, .gone, .gone, .gone]) (by first | exact hB z99α S false false false e11 e23 e35 | (have q := hB z99α S false false false e11 e23 e35; simp only [cond_true, cond_false] at q; exact q)) ?_
          refine o_move rfl rfl guard_none (look_o rfl rfl) (fun _ => rfl) ?_
          apply h_endA (α := z99α) (z99α.1, z99α.2.1, z99α.2.2)
          · exact (.same (.same (.same (.same (.same (.same (.same (.same (.same (.same (.same (.same (.same (.same (.same (.same (.same (.same (.same (.same (.same (.same (.same (.same (.same (.same (.same (.same (.same (.same (.same (.same (.same (.same (.same (.same (.same (.same (.same .nil)))))))))))))))))))))))))))))))))))))))
          · exact rfl
          · exact rfl
          · exact rfl
          · exact hB (z99α.1, z99α.2.1, z99α.2.2) (fun k => S k || Nat.beq k 0) false false false (or_f e11 rfl) (or_f e23 rfl) (or_f e35 rfl)
        · intro z99α S hc hk hp
          have e11 : S 11 = false := (not_yet (j := 11) (q := 1) hc (not_yet (j := 5) (q := 0) hc (not_yet (j := 4) (q := 0) hc (not_yet (j := 3) (q := 0) hc hk rfl rfl rfl rfl) rfl rfl rfl rfl) rfl rfl rfl rfl) rfl rfl rfl rfl)
          have e23 : S 23 = false := (not_yet (j := 23) (q := 3) hc (not_yet (j := 11) (q := 1) hc (not_yet (j := 5) (q := 0) hc (not_yet (j := 4) (q := 0) hc (not_yet (j := 3) (q := 0) hc hk rfl rfl rfl rfl) rfl rfl rfl rfl) rfl rfl rfl rfl) rfl rfl rfl rfl) rfl rfl rfl rfl)
          have e35 : S 35 = false := (not_yet (j := 35) (q := 3) hc (not_yet (j := 23) (q := 3) hc (not_yet (j := 11) (q := 1) hc (not_yet (j := 5) (q := 0) hc (not_yet (j := 4) (q := 0) hc (not_yet (j := 3) (q := 0) hc hk rfl rfl rfl rfl) rfl rfl rfl rfl) rfl rfl rfl rfl) rfl rfl rfl rfl) rfl rfl rfl rfl) rfl rfl rfl rfl)
          refine eq_H (H' := [.vec z98α.1 (T_deque_Cell_rep) z98.2.1.was.cells, .obj true z16 z17 (.dat (T_tally_Tally_repo z98α.1)) z98.2.1, .vec z98α.2.1 (T_deque_Cell_rep) z98.2.2.1.was.cells, .obj true z11 z12 (.dat (T_tally_Tally_repo z98α.2.1)) z98.2.2.1, .vec z98α.2.2 (T_deque_Cell_rep) z98.2.2.2.was.cells, .obj true z6 z7 (.dat (T_tally_Tally_repo z98α.2.2)) z98.2.2.2, .gone, .gone, .gone]) (by first | exact hB z99α S false false false e11 e23 e35 | (have q := hB z99α S false false false e11 e23 e35; simp only [cond_true, cond_false] at q; exact q)) ?_
          refine o_move rfl rfl guard_none (look_o rfl rfl) (fun _ => rfl) ?_
          apply h_endA (α := z99α) (z99α.1, z99α.2.1, z99α.2.2)
          · exact (.same (.same (.same (.same (.same (.same (.same (.same (.same (.same (.same (.same (.same (.same (.same (.same (.same (.same (.same (.same (.same (.same (.same (.same (.same (.same (.same (.same (.same (.same (.same (.same (.same (.same (.same (.same (.same (.same (.same .nil)))))))))))))))))))))))))))))))))))))))
          · exact rfl
          · exact rfl
          · exact rfl
          · exact hB (z99α.1, z99α.2.1, z99α.2.2) (fun k => S k || Nat.beq k 1) false false false (or_f e11 rfl) (or_f e23 rfl) (or_f e35 rfl)
        · intro z99α S hc hk hp
          have e11 : S 11 = false := (not_yet (j := 11) (q := 1) hc (not_yet (j := 5) (q := 0) hc (not_yet (j := 4) (q := 0) hc (not_yet (j := 3) (q := 1) hc hk rfl rfl rfl rfl) rfl rfl rfl rfl) rfl rfl rfl rfl) rfl rfl rfl rfl)
          have e23 : S 23 = false := (not_yet (j := 23) (q := 3) hc (not_yet (j := 11) (q := 1) hc (not_yet (j := 5) (q := 0) hc (not_yet (j := 4) (q := 0) hc (not_yet (j := 3) (q := 1) hc hk rfl rfl rfl rfl) rfl rfl rfl rfl) rfl rfl rfl rfl) rfl rfl rfl rfl) rfl rfl rfl rfl)
          have e35 : S 35 = false := (not_yet (j := 35) (q := 3) hc (not_yet (j := 23) (q := 3) hc (not_yet (j := 11) (q := 1) hc (not_yet (j := 5) (q := 0) hc (not_yet (j := 4) (q := 0) hc (not_yet (j := 3) (q := 1) hc hk rfl rfl rfl rfl) rfl rfl rfl rfl) rfl rfl rfl rfl) rfl rfl rfl rfl) rfl rfl rfl rfl) rfl rfl rfl rfl)
          refine eq_H (H' := [.vec z98α.1 (T_deque_Cell_rep) z98.2.1.was.cells, .obj true z16 z17 (.dat (T_tally_Tally_repo z98α.1)) z98.2.1, .vec z98α.2.1 (T_deque_Cell_rep) z98.2.2.1.was.cells, .obj true z11 z12 (.dat (T_tally_Tally_repo z98α.2.1)) z98.2.2.1, .vec z98α.2.2 (T_deque_Cell_rep) z98.2.2.2.was.cells, .obj true z6 z7 (.dat (T_tally_Tally_repo z98α.2.2)) z98.2.2.2, .gone, .gone, .gone]) (by first | exact hB z99α S false false false e11 e23 e35 | (have q := hB z99α S false false false e11 e23 e35; simp only [cond_true, cond_false] at q; exact q)) ?_
          refine o_move rfl rfl guard_none (look_o rfl rfl) (fun _ => rfl) ?_
          apply h_endA (α := z99α) (z99α.1, z99α.2.1, z99α.2.2)
          · exact (.same (.same (.same (.same (.same (.same (.same (.same (.same (.same (.same (.same (.same (.same (.same (.same (.same (.same (.same (.same (.same (.same (.same (.same (.same (.same (.same (.same (.same (.same (.same (.same (.same (.same (.same (.same (.same (.same (.same .nil)))))))))))))))))))))))))))))))))))))))
          · exact rfl
          · exact rfl
          · exact rfl
          · exact hB (z99α.1, z99α.2.1, z99α.2.2) (fun k => S k || Nat.beq k 2) false false false (or_f e11 rfl) (or_f e23 rfl) (or_f e35 rfl)
        · intro z99α S hc hk hp
          have e11 : S 11 = false := (not_yet (j := 11) (q := 1) hc (not_yet (j := 5) (q := 0) hc (not_yet (j := 4) (q := 0) hc hk rfl rfl rfl rfl) rfl rfl rfl rfl) rfl rfl rfl rfl)
          have e23 : S 23 = false := (not_yet (j := 23) (q := 3) hc (not_yet (j := 11) (q := 1) hc (not_yet (j := 5) (q := 0) hc (not_yet (j := 4) (q := 0) hc hk rfl rfl rfl rfl) rfl rfl rfl rfl) rfl rfl rfl rfl) rfl rfl rfl rfl)
          have e35 : S 35 = false := (not_yet (j := 35) (q := 3) hc (not_yet (j := 23) (q := 3) hc (not_yet (j := 11) (q := 1) hc (not_yet (j := 5) (q := 0) hc (not_yet (j := 4) (q := 0) hc hk rfl rfl rfl rfl) rfl rfl rfl rfl) rfl rfl rfl rfl) rfl rfl rfl rfl) rfl rfl rfl rfl)
          refine eq_H (H' := [.vec z98α.1 (T_deque_Cell_rep) z98.2.1.was.cells, .obj true z16 z17 (.dat (T_tally_Tally_repo z98α.1)) z98.2.1, .vec z98α.2.1 (T_deque_Cell_rep) z98.2.2.1.was.cells, .obj true z11 z12 (.dat (T_tally_Tally_repo z98α.2.1)) z98.2.2.1, .vec z98α.2.2 (T_deque_Cell_rep) z98.2.2.2.was.cells, .obj true z6 z7 (.dat (T_tally_Tally_repo z98α.2.2)) z98.2.2.2, .gone, .gone, .gone]) (by first | exact hB z99α S false false false e11 e23 e35 | (have q := hB z99α S false false false e11 e23 e35; simp only [cond_true, cond_false] at q; exact q)) ?_
          refine o_from (bind_eqO h_z100) ?_
          refine o_iaddr Try.underlying44 type49 rfl rfl (look_d rfl rfl (pr hp 0 rfl rfl)) (look_d rfl rfl (pr hp 1 rfl rfl)) rfl rfl (o_eqO ?_)
          apply h_endA (α := z99α) (z99α.1, z99α.2.1, z99α.2.2)
          · exact (.same (.same (.same (.same (.same (.same (.same (.same (.same (.same (.same (.same (.same (.same (.same (.same (.same (.same (.same (.same (.same (.same (.same (.same (.same (.same (.same (.same (.same (.same (.same (.same (.same (.same (.same (.same (.same (.same (.same .nil)))))))))))))))))))))))))))))))))))))))
          · exact rfl
          · exact rfl
          · exact rfl
          · exact hB (z99α.1, z99α.2.1, z99α.2.2) (fun k => S k || Nat.beq k 3) false false false (or_f e11 rfl) (or_f e23 rfl) (or_f e35 rfl)
        · intro z99α S hc hk hp
          have e11 : S 11 = false := (not_yet (j := 11) (q := 1) hc (not_yet (j := 5) (q := 0) hc hk rfl rfl rfl rfl) rfl rfl rfl rfl)
          have e23 : S 23 = false := (not_yet (j := 23) (q := 3) hc (not_yet (j := 11) (q := 1) hc (not_yet (j := 5) (q := 0) hc hk rfl rfl rfl rfl) rfl rfl rfl rfl) rfl rfl rfl rfl)
          have e35 : S 35 = false := (not_yet (j := 35) (q := 3) hc (not_yet (j := 23) (q := 3) hc (not_yet (j := 11) (q := 1) hc (not_yet (j := 5) (q := 0) hc hk rfl rfl rfl rfl) rfl rfl rfl rfl) rfl rfl rfl rfl) rfl rfl rfl rfl)
          refine eq_H (H' := [.vec z98α.1 (T_deque_Cell_rep) z98.2.1.was.cells, .obj true z16 z17 (.dat (T_tally_Tally_repo z98α.1)) z98.2.1, .vec z98α.2.1 (T_deque_Cell_rep) z98.2.2.1.was.cells, .obj true z11 z12 (.dat (T_tally_Tally_repo z98α.2.1)) z98.2.2.1, .vec z98α.2.2 (T_deque_Cell_rep) z98.2.2.2.was.cells, .obj true z6 z7 (.dat (T_tally_Tally_repo z98α.2.2)) z98.2.2.2, .gone, .gone, .gone]) (by first | exact hB z99α S false false false e11 e23 e35 | (have q := hB z99α S false false false e11 e23 e35; simp only [cond_true, cond_false] at q; exact q)) ?_
          refine o_fptr field49_0 type2 (by decide) T_law17_Step_foc0 rfl rfl guard_none (look_d rfl rfl (pr hp 0 rfl rfl)) (fun _ => rfl) ?_
          apply h_endA (α := z99α) (z99α.1, z99α.2.1, z99α.2.2)
          · exact (.same (.same (.same (.same (.same (.same (.same (.same (.same (.same (.same (.same (.same (.same (.same (.same (.same (.same (.same (.same (.same (.same (.same (.same (.same (.same (.same (.same (.same (.same (.same (.same (.same (.same (.same (.same (.same (.same (.same .nil)))))))))))))))))))))))))))))))))))))))
          · exact rfl
          · exact rfl
          · exact rfl
          · exact hB (z99α.1, z99α.2.1, z99α.2.2) (fun k => S k || Nat.beq k 4) false false false (or_f e11 rfl) (or_f e23 rfl) (or_f e35 rfl)
        · intro z99α S hc hk hp
          have e11 : S 11 = false := (not_yet (j := 11) (q := 1) hc hk rfl rfl rfl rfl)
          have e23 : S 23 = false := (not_yet (j := 23) (q := 3) hc (not_yet (j := 11) (q := 1) hc hk rfl rfl rfl rfl) rfl rfl rfl rfl)
          have e35 : S 35 = false := (not_yet (j := 35) (q := 3) hc (not_yet (j := 23) (q := 3) hc (not_yet (j := 11) (q := 1) hc hk rfl rfl rfl rfl) rfl rfl rfl rfl) rfl rfl rfl rfl)
          refine eq_H (H' := [.vec z98α.1 (T_deque_Cell_rep) z98.2.1.was.cells, .obj true z16 z17 (.dat (T_tally_Tally_repo z98α.1)) z98.2.1, .vec z98α.2.1 (T_deque_Cell_rep) z98.2.2.1.was.cells, .obj true z11 z12 (.dat (T_tally_Tally_repo z98α.2.1)) z98.2.2.1, .vec z98α.2.2 (T_deque_Cell_rep) z98.2.2.2.was.cells, .obj true z6 z7 (.dat (T_tally_Tally_repo z98α.2.2)) z98.2.2.2, .gone, .gone, .gone]) (by first | exact hB z99α S false false false e11 e23 e35 | (have q := hB z99α S false false false e11 e23 e35; simp only [cond_true, cond_false] at q; exact q)) ?_
          refine o_load type2 rfl rfl guard_none (look_d rfl rfl (pr hp 0 rfl rfl)) (fun _ => rfl) ?_
          apply h_endA (α := z99α) (z99α.1, z99α.2.1, z99α.2.2)
          · exact (.same (.same (.same (.same (.same (.same (.same (.same (.same (.same (.same (.same (.same (.same (.same (.same (.same (.same (.same (.same (.same (.same (.same (.same (.same (.same (.same (.same (.same (.same (.same (.same (.same (.same (.same (.same (.same (.same (.same .nil)))))))))))))))))))))))))))))))))))))))
          · exact rfl
          · exact rfl
          · exact rfl
          · exact hB (z99α.1, z99α.2.1, z99α.2.2) (fun k => S k || Nat.beq k 5) false false false (or_f e11 rfl) (or_f e23 rfl) (or_f e35 rfl)
        · intro z99α S hc hk hp
          have e11 : S 11 = false := (not_yet (j := 11) (q := 2) hc (not_yet (j := 10) (q := 0) hc (not_yet (j := 9) (q := 0) hc (not_yet (j := 8) (q := 0) hc hk rfl rfl rfl rfl) rfl rfl rfl rfl) rfl rfl rfl rfl) rfl rfl rfl rfl)
          have e23 : S 23 = false := (not_yet (j := 23) (q := 3) hc (not_yet (j := 11) (q := 2) hc (not_yet (j := 10) (q := 0) hc (not_yet (j := 9) (q := 0) hc (not_yet (j := 8) (q := 0) hc hk rfl rfl rfl rfl) rfl rfl rfl rfl) rfl rfl rfl rfl) rfl rfl rfl rfl) rfl rfl rfl rfl)
          have e35 : S 35 = false := (not_yet (j := 35) (q := 3) hc (not_yet (j := 23) (q := 3) hc (not_yet (j := 11) (q := 2) hc (not_yet (j := 10) (q := 0) hc (not_yet (j := 9) (q := 0) hc (not_yet (j := 8) (q := 0) hc hk rfl rfl rfl rfl) rfl rfl rfl rfl) rfl rfl rfl rfl) rfl rfl rfl rfl) rfl rfl rfl rfl) rfl rfl rfl rfl)
          refine eq_H (H' := [.vec z98α.1 (T_deque_Cell_rep) z98.2.1.was.cells, .obj true z16 z17 (.dat (T_tally_Tally_repo z98α.1)) z98.2.1, .vec z98α.2.1 (T_deque_Cell_rep) z98.2.2.1.was.cells, .obj true z11 z12 (.dat (T_tally_Tally_repo z98α.2.1)) z98.2.2.1, .vec z98α.2.2 (T_deque_Cell_rep) z98.2.2.2.was.cells, .obj true z6 z7 (.dat (T_tally_Tally_repo z98α.2.2)) z98.2.2.2, .gone, .gone, .gone]) (by first | exact hB z99α S false false false e11 e23 e35 | (have q := hB z99α S false false false e11 e23 e35; simp only [cond_true, cond_false] at q; exact q)) ?_
          refine o_move rfl rfl guard_none (look_o rfl rfl) (fun _ => rfl) ?_
          apply h_endA (α := z99α) (z99α.1, z99α.2.1, z99α.2.2)
          · exact (.same (.same (.same (.same (.same (.same (.same (.same (.same (.same (.same (.same (.same (.same (.same (.same (.same (.same (.same (.same (.same (.same (.same (.same (.same (.same (.same (.same (.same (.same (.same (.same (.same (.same (.same (.same (.same (.same (.same .nil)))))))))))))))))))))))))))))))))))))))
          · exact rfl
          · exact rfl
          · exact rfl
          · exact hB (z99α.1, z99α.2.1, z99α.2.2) (fun k => S k || Nat.beq k 6) false false false (or_f e11 rfl) (or_f e23 rfl) (or_f e35 rfl)
        · intro z99α S hc hk hp
          have e11 : S 11 = false := (not_yet (j := 11) (q := 2) hc (not_yet (j := 10) (q := 0) hc (not_yet (j := 9) (q := 0) hc (not_yet (j := 8) (q := 1) hc hk rfl rfl rfl rfl) rfl rfl rfl rfl) rfl rfl rfl rfl) rfl rfl rfl rfl)
          have e23 : S 23 = false := (not_yet (j := 23) (q := 3) hc (not_yet (j := 11) (q := 2) hc (not_yet (j := 10) (q := 0) hc (not_yet (j := 9) (q := 0) hc (not_yet (j := 8) (q := 1) hc hk rfl rfl rfl rfl) rfl rfl rfl rfl) rfl rfl rfl rfl) rfl rfl rfl rfl) rfl rfl rfl rfl)
          have e35 : S 35 = false := (not_yet (j := 35) (q := 3) hc (not_yet (j := 23) (q := 3) hc (not_yet (j := 11) (q := 2) hc (not_yet (j := 10) (q := 0) hc (not_yet (j := 9) (q := 0) hc (not_yet (j := 8) (q := 1) hc hk rfl rfl rfl rfl) rfl rfl rfl rfl) rfl rfl rfl rfl) rfl rfl rfl rfl) rfl rfl rfl rfl) rfl rfl rfl rfl)
          refine eq_H (H' := [.vec z98α.1 (T_deque_Cell_rep) z98.2.1.was.cells, .obj true z16 z17 (.dat (T_tally_Tally_repo z98α.1)) z98.2.1, .vec z98α.2.1 (T_deque_Cell_rep) z98.2.2.1.was.cells, .obj true z11 z12 (.dat (T_tally_Tally_repo z98α.2.1)) z98.2.2.1, .vec z98α.2.2 (T_deque_Cell_rep) z98.2.2.2.was.cells, .obj true z6 z7 (.dat (T_tally_Tally_repo z98α.2.2)) z98.2.2.2, .gone, .gone, .gone]) (by first | exact hB z99α S false false false e11 e23 e35 | (have q := hB z99α S false false false e11 e23 e35; simp only [cond_true, cond_false] at q; exact q)) ?_
          refine o_move rfl rfl guard_none (look_o rfl rfl) (fun _ => rfl) ?_
          apply h_endA (α := z99α) (z99α.1, z99α.2.1, z99α.2.2)
          · exact (.same (.same (.same (.same (.same (.same (.same (.same (.same (.same (.same (.same (.same (.same (.same (.same (.same (.same (.same (.same (.same (.same (.same (.same (.same (.same (.same (.same (.same (.same (.same (.same (.same (.same (.same (.same (.same (.same (.same .nil)))))))))))))))))))))))))))))))))))))))
          · exact rfl
          · exact rfl
          · exact rfl
          · exact hB (z99α.1, z99α.2.1, z99α.2.2) (fun k => S k || Nat.beq k 7) false false false (or_f e11 rfl) (or_f e23 rfl) (or_f e35 rfl)
        · intro z99α S hc hk hp
          have e11 : S 11 = false := (not_yet (j := 11) (q := 2) hc (not_yet (j := 10) (q := 0) hc (not_yet (j := 9) (q := 0) hc hk rfl rfl rfl rfl) rfl rfl rfl rfl) rfl rfl rfl rfl)
          have e23 : S 23 = false := (not_yet (j := 23) (q := 3) hc (not_yet (j := 11) (q := 2) hc (not_yet (j := 10) (q := 0) hc (not_yet (j := 9) (q := 0) hc hk rfl rfl rfl rfl) rfl rfl rfl rfl) rfl rfl rfl rfl) rfl rfl rfl rfl)
          have e35 : S 35 = false := (not_yet (j := 35) (q := 3) hc (not_yet (j := 23) (q := 3) hc (not_yet (j := 11) (q := 2) hc (not_yet (j := 10) (q := 0) hc (not_yet (j := 9) (q := 0) hc hk rfl rfl rfl rfl) rfl rfl rfl rfl) rfl rfl rfl rfl) rfl rfl rfl rfl) rfl rfl rfl rfl)
          refine eq_H (H' := [.vec z98α.1 (T_deque_Cell_rep) z98.2.1.was.cells, .obj true z16 z17 (.dat (T_tally_Tally_repo z98α.1)) z98.2.1, .vec z98α.2.1 (T_deque_Cell_rep) z98.2.2.1.was.cells, .obj true z11 z12 (.dat (T_tally_Tally_repo z98α.2.1)) z98.2.2.1, .vec z98α.2.2 (T_deque_Cell_rep) z98.2.2.2.was.cells, .obj true z6 z7 (.dat (T_tally_Tally_repo z98α.2.2)) z98.2.2.2, .gone, .gone, .gone]) (by first | exact hB z99α S false false false e11 e23 e35 | (have q := hB z99α S false false false e11 e23 e35; simp only [cond_true, cond_false] at q; exact q)) ?_
          refine o_from (bind_eqO h_z101) ?_
          refine o_iaddr Try.underlying44 type49 rfl rfl (look_d rfl rfl (pr hp 0 rfl rfl)) (look_d rfl rfl (pr hp 1 rfl rfl)) rfl rfl (o_eqO ?_)
          apply h_endA (α := z99α) (z99α.1, z99α.2.1, z99α.2.2)
          · exact (.same (.same (.same (.same (.same (.same (.same (.same (.same (.same (.same (.same (.same (.same (.same (.same (.same (.same (.same (.same (.same (.same (.same (.same (.same (.same (.same (.same (.same (.same (.same (.same (.same (.same (.same (.same (.same (.same (.same .nil)))))))))))))))))))))))))))))))))))))))
          · exact rfl
          · exact rfl
          · exact rfl
          · exact hB (z99α.1, z99α.2.1, z99α.2.2) (fun k => S k || Nat.beq k 8) false false false (or_f e11 rfl) (or_f e23 rfl) (or_f e35 rfl)
        · intro z99α S hc hk hp
          have e11 : S 11 = false := (not_yet (j := 11) (q := 2) hc (not_yet (j := 10) (q := 0) hc hk rfl rfl rfl rfl) rfl rfl rfl rfl)
          have e23 : S 23 = false := (not_yet (j := 23) (q := 3) hc (not_yet (j := 11) (q := 2) hc (not_yet (j := 10) (q := 0) hc hk rfl rfl rfl rfl) rfl rfl rfl rfl) rfl rfl rfl rfl)
          have e35 : S 35 = false := (not_yet (j := 35) (q := 3) hc (not_yet (j := 23) (q := 3) hc (not_yet (j := 11) (q := 2) hc (not_yet (j := 10) (q := 0) hc hk rfl rfl rfl rfl) rfl rfl rfl rfl) rfl rfl rfl rfl) rfl rfl rfl rfl)
          refine eq_H (H' := [.vec z98α.1 (T_deque_Cell_rep) z98.2.1.was.cells, .obj true z16 z17 (.dat (T_tally_Tally_repo z98α.1)) z98.2.1, .vec z98α.2.1 (T_deque_Cell_rep) z98.2.2.1.was.cells, .obj true z11 z12 (.dat (T_tally_Tally_repo z98α.2.1)) z98.2.2.1, .vec z98α.2.2 (T_deque_Cell_rep) z98.2.2.2.was.cells, .obj true z6 z7 (.dat (T_tally_Tally_repo z98α.2.2)) z98.2.2.2, .gone, .gone, .gone]) (by first | exact hB z99α S false false false e11 e23 e35 | (have q := hB z99α S false false false e11 e23 e35; simp only [cond_true, cond_false] at q; exact q)) ?_
          refine o_fptr field49_1 type4 (by decide) T_law17_Step_foc1 rfl rfl guard_none (look_d rfl rfl (pr hp 0 rfl rfl)) (fun _ => rfl) ?_
          apply h_endA (α := z99α) (z99α.1, z99α.2.1, z99α.2.2)
          · exact (.same (.same (.same (.same (.same (.same (.same (.same (.same (.same (.same (.same (.same (.same (.same (.same (.same (.same (.same (.same (.same (.same (.same (.same (.same (.same (.same (.same (.same (.same (.same (.same (.same (.same (.same (.same (.same (.same (.same .nil)))))))))))))))))))))))))))))))))))))))
          · exact rfl
          · exact rfl
          · exact rfl
          · exact hB (z99α.1, z99α.2.1, z99α.2.2) (fun k => S k || Nat.beq k 9) false false false (or_f e11 rfl) (or_f e23 rfl) (or_f e35 rfl)
        · intro z99α S hc hk hp
          have e11 : S 11 = false := (not_yet (j := 11) (q := 2) hc hk rfl rfl rfl rfl)
          have e23 : S 23 = false := (not_yet (j := 23) (q := 3) hc (not_yet (j := 11) (q := 2) hc hk rfl rfl rfl rfl) rfl rfl rfl rfl)
          have e35 : S 35 = false := (not_yet (j := 35) (q := 3) hc (not_yet (j := 23) (q := 3) hc (not_yet (j := 11) (q := 2) hc hk rfl rfl rfl rfl) rfl rfl rfl rfl) rfl rfl rfl rfl)
          refine eq_H (H' := [.vec z98α.1 (T_deque_Cell_rep) z98.2.1.was.cells, .obj true z16 z17 (.dat (T_tally_Tally_repo z98α.1)) z98.2.1, .vec z98α.2.1 (T_deque_Cell_rep) z98.2.2.1.was.cells, .obj true z11 z12 (.dat (T_tally_Tally_repo z98α.2.1)) z98.2.2.1, .vec z98α.2.2 (T_deque_Cell_rep) z98.2.2.2.was.cells, .obj true z6 z7 (.dat (T_tally_Tally_repo z98α.2.2)) z98.2.2.2, .gone, .gone, .gone]) (by first | exact hB z99α S false false false e11 e23 e35 | (have q := hB z99α S false false false e11 e23 e35; simp only [cond_true, cond_false] at q; exact q)) ?_
          refine o_load type4 rfl rfl guard_none (look_d rfl rfl (pr hp 0 rfl rfl)) (fun _ => rfl) ?_
          apply h_endA (α := z99α) (z99α.1, z99α.2.1, z99α.2.2)
          · exact (.same (.same (.same (.same (.same (.same (.same (.same (.same (.same (.same (.same (.same (.same (.same (.same (.same (.same (.same (.same (.same (.same (.same (.same (.same (.same (.same (.same (.same (.same (.same (.same (.same (.same (.same (.same (.same (.same (.same .nil)))))))))))))))))))))))))))))))))))))))
          · exact rfl
          · exact rfl
          · exact rfl
          · exact hB (z99α.1, z99α.2.1, z99α.2.2) (fun k => S k || Nat.beq k 10) false false false (or_f e11 rfl) (or_f e23 rfl) (or_f e35 rfl)
        · intro z99α S hc hk hp
          have e23 : S 23 = false := (not_yet (j := 23) (q := 3) hc hk rfl rfl rfl rfl)
          have e35 : S 35 = false := (not_yet (j := 35) (q := 3) hc (not_yet (j := 23) (q := 3) hc hk rfl rfl rfl rfl) rfl rfl rfl rfl)
          refine eq_H (H' := [.vec z98α.1 (T_deque_Cell_rep) z98.2.1.was.cells, .obj true z16 z17 (.dat (T_tally_Tally_repo z98α.1)) z98.2.1, .vec z98α.2.1 (T_deque_Cell_rep) z98.2.2.1.was.cells, .obj true z11 z12 (.dat (T_tally_Tally_repo z98α.2.1)) z98.2.2.1, .vec z98α.2.2 (T_deque_Cell_rep) z98.2.2.2.was.cells, .obj true z6 z7 (.dat (T_tally_Tally_repo z98α.2.2)) z98.2.2.2, .gone, .gone, .gone]) (by first | exact hB z99α S false false false hk e23 e35 | (have q := hB z99α S false false false hk e23 e35; simp only [cond_true, cond_false] at q; exact q)) ?_
          refine o_from (bind_eqO h_z102) ?_
          refine o_weak (H' := [.vec z98α.2.2 (T_deque_Cell_rep) z98.2.2.2.was.cells, .obj true z6 z7 (.dat (T_tally_Tally_repo z98α.2.2)) z98.2.2.2] ++ ([] ++ [.vec z98α.1 (T_deque_Cell_rep) z98.2.1.was.cells, .obj true z16 z17 (.dat (T_tally_Tally_repo z98α.1)) z98.2.1, .vec z98α.2.1 (T_deque_Cell_rep) z98.2.2.1.was.cells, .obj true z11 z12 (.dat (T_tally_Tally_repo z98α.2.1)) z98.2.2.1, .gone, .gone, .gone])) (sub_pick [4, 5, 0, 1, 2, 3, 6, 7, 8] rfl rfl) ?_
          refine o_callU rfl rfl rfl rfl rfl callable23 (looks_cons (look_d rfl rfl (pr hp 0 rfl rfl)) (fun _ => rfl) (looks_cons (look_d rfl rfl (pr hp 1 rfl rfl)) (fun _ => rfl) (looks_cons (look_d rfl rfl (pr hp 2 rfl rfl)) (fun _ => rfl) (looks_nil)))) .nil (tally_Tally_Step_ok _ _ _ z98.2.2.2 z100.At z101.Is) (fun _ _ => (wr_v (wr_c wr_n))) (fun z103α => o_eqOH ?_)
          refine o_weak (H' := [.vec z103α (T_deque_Cell_rep) z102.2.was.cells, .obj true z6 z7 (.dat (T_tally_Tally_repo z103α)) z102.2, .vec z98α.1 (T_deque_Cell_rep) z98.2.1.was.cells, .obj true z16 z17 (.dat (T_tally_Tally_repo z98α.1)) z98.2.1, .vec z98α.2.1 (T_deque_Cell_rep) z98.2.2.1.was.cells, .obj true z11 z12 (.dat (T_tally_Tally_repo z98α.2.1)) z98.2.2.1, .gone, .gone, .gone]) (sub_pick [0, 1, 2, 3, 4, 5, 6, 7, 8] rfl rfl) ?_
          refine o_weak sub_gone ?_
          refine o_weak (H' := [.vec z98α.1 (T_deque_Cell_rep) z98.2.1.was.cells, .obj true z16 z17 (.dat (T_tally_Tally_repo z98α.1)) z98.2.1, .vec z98α.2.1 (T_deque_Cell_rep) z98.2.2.1.was.cells, .obj true z11 z12 (.dat (T_tally_Tally_repo z98α.2.1)) z98.2.2.1, .gone, .obj true z6 z7 (.dat (T_tally_Tally_repo z103α)) z102.2, .vec z103α (T_deque_Cell_rep) z102.2.was.cells, .gone, .gone]) (sub_pick [3, 4, 5, 6, 0, 2, 1, 8, 9] rfl rfl) ?_
          apply h_endA (α := z99α) (z103α, z99α.2.1, z99α.2.2)
          · exact (.same (.same (.same (.same (.same (.same (.same (.same (.same (.same (.same (.same (.same (.same (.same (.same (.same (.same (.same (.same (.same (.same (.same (.same (.same (.same (.same (.same (.same (.same (.same (.same (.same (.same (.same (.same (.same (.same (.same .nil)))))))))))))))))))))))))))))))))))))))
          · exact rfl
          · exact rfl
          · exact rfl
          · exact hB (z103α, z99α.2.1, z99α.2.2) (fun k => S k || Nat.beq k 11) true false false (or_i rfl) (or_f e23 rfl) (or_f e35 rfl)
        · intro z99α S hc hk hp
          have e23 : S 23 = false := (not_yet (j := 23) (q := 0) hc hk rfl rfl rfl rfl)
          have e35 : S 35 = false := (not_yet (j := 35) (q := 3) hc (not_yet (j := 23) (q := 0) hc hk rfl rfl rfl rfl) rfl rfl rfl rfl)
          refine eq_H (H' := [.vec z98α.1 (T_deque_Cell_rep) z98.2.1.was.cells, .obj true z16 z17 (.dat (T_tally_Tally_repo z98α.1)) z98.2.1, .vec z98α.2.1 (T_deque_Cell_rep) z98.2.2.1.was.cells, .obj true z11 z12 (.dat (T_tally_Tally_repo z98α.2.1)) z98.2.2.1, (cond (S 11) (.gone) (.vec z98α.2.2 (T_deque_Cell_rep) z98.2.2.2.was.cells)), (cond (S 11) (.obj true z6 z7 (.dat (T_tally_Tally_repo z99α.1)) z102.2) (.obj true z6 z7 (.dat (T_tally_Tally_repo z98α.2.2)) z98.2.2.2)), (cond (S 11) (.vec (z99α.1) (T_deque_Cell_rep) z102.2.was.cells) (.gone)), .gone, .gone]) (by first | exact hB z99α S (S 11) false false rfl e23 e35 | (have q := hB z99α S (S 11) false false rfl e23 e35; simp only [cond_true, cond_false] at q; exact q)) ?_
          refine o_move rfl rfl guard_none (look_o rfl rfl) (fun _ => rfl) ?_
          apply h_endA (α := z99α) (z99α.1, z99α.2.1, z99α.2.2)
          · exact (.same (.same (.same (.same (.same (.same (.same (.same (.same (.same (.same (.same (.same (.same (.same (.same (.same (.same (.same (.same (.same (.same (.same (.same (.same (.same (.same (.same (.same (.same (.same (.same (.same (.same (.same (.same (.same (.same (.same .nil)))))))))))))))))))))))))))))))))))))))
          · exact rfl
          · exact rfl
          · exact rfl
          · exact hB (z99α.1, z99α.2.1, z99α.2.2) (fun k => S k || Nat.beq k 12) (S 11) false false (or_ne rfl) (or_f e23 rfl) (or_f e35 rfl)
        · intro z99α S hc hk hp
          have e23 : S 23 = false := (not_yet (j := 23) (q := 1) hc (not_yet (j := 17) (q := 0) hc (not_yet (j := 16) (q := 0) hc (not_yet (j := 15) (q := 0) hc hk rfl rfl rfl rfl) rfl rfl rfl rfl) rfl rfl rfl rfl) rfl rfl rfl rfl)
          have e35 : S 35 = false := (not_yet (j := 35) (q := 3) hc (not_yet (j := 23) (q := 1) hc (not_yet (j := 17) (q := 0) hc (not_yet (j := 16) (q := 0) hc (not_yet (j := 15) (q := 0) hc hk rfl rfl rfl rfl) rfl rfl rfl rfl) rfl rfl rfl rfl) rfl rfl rfl rfl) rfl rfl rfl rfl)
          refine eq_H (H' := [.vec z98α.1 (T_deque_Cell_rep) z98.2.1.was.cells, .obj true z16 z17 (.dat (T_tally_Tally_repo z98α.1)) z98.2.1, .vec z98α.2.1 (T_deque_Cell_rep) z98.2.2.1.was.cells, .obj true z11 z12 (.dat (T_tally_Tally_repo z98α.2.1)) z98.2.2.1, (cond (S 11) (.gone) (.vec z98α.2.2 (T_deque_Cell_rep) z98.2.2.2.was.cells)), (cond (S 11) (.obj true z6 z7 (.dat (T_tally_Tally_repo z99α.1)) z102.2) (.obj true z6 z7 (.dat (T_tally_Tally_repo z98α.2.2)) z98.2.2.2)), (cond (S 11) (.vec (z99α.1) (T_deque_Cell_rep) z102.2.was.cells) (.gone)), .gone, .gone]) (by first | exact hB z99α S (S 11) false false rfl e23 e35 | (have q := hB z99α S (S 11) false false rfl e23 e35; simp only [cond_true, cond_false] at q; exact q)) ?_
          refine o_move rfl rfl guard_none (look_o rfl rfl) (fun _ => rfl) ?_
          apply h_endA (α := z99α) (z99α.1, z99α.2.1, z99α.2.2)
          · exact (.same (.same (.same (.same (.same (.same (.same (.same (.same (.same (.same (.same (.same (.same (.same (.same (.same (.same (.same (.same (.same (.same (.same (.same (.same (.same (.same (.same (.same (.same (.same (.same (.same (.same (.same (.same (.same (.same (.same .nil)))))))))))))))))))))))))))))))))))))))
          · exact rfl
          · exact rfl
          · exact rfl
          · exact hB (z99α.1, z99α.2.1, z99α.2.2) (fun k => S k || Nat.beq k 13) (S 11) false false (or_ne rfl) (or_f e23 rfl) (or_f e35 rfl)
        · intro z99α S hc hk hp
          have e23 : S 23 = false := (not_yet (j := 23) (q := 1) hc (not_yet (j := 17) (q := 0) hc (not_yet (j := 16) (q := 0) hc (not_yet (j := 15) (q := 1) hc hk rfl rfl rfl rfl) rfl rfl rfl rfl) rfl rfl rfl rfl) rfl rfl rfl rfl)
          have e35 : S 35 = false := (not_yet (j := 35) (q := 3) hc (not_yet (j := 23) (q := 1) hc (not_yet (j := 17) (q := 0) hc (not_yet (j := 16) (q := 0) hc (not_yet (j := 15) (q := 1) hc hk rfl rfl rfl rfl) rfl rfl rfl rfl) rfl rfl rfl rfl) rfl rfl rfl rfl) rfl rfl rfl rfl)
          refine eq_H (H' := [.vec z98α.1 (T_deque_Cell_rep) z98.2.1.was.cells, .obj true z16 z17 (.dat (T_tally_Tally_repo z98α.1)) z98.2.1, .vec z98α.2.1 (T_deque_Cell_rep) z98.2.2.1.was.cells, .obj true z11 z12 (.dat (T_tally_Tally_repo z98α.2.1)) z98.2.2.1, (cond (S 11) (.gone) (.vec z98α.2.2 (T_deque_Cell_rep) z98.2.2.2.was.cells)), (cond (S 11) (.obj true z6 z7 (.dat (T_tally_Tally_repo z99α.1)) z102.2) (.obj true z6 z7 (.dat (T_tally_Tally_repo z98α.2.2)) z98.2.2.2)), (cond (S 11) (.vec (z99α.1) (T_deque_Cell_rep) z102.2.was.cells) (.gone)), .gone, .gone]) (by first | exact hB z99α S (S 11) false false rfl e23 e35 | (have q := hB z99α S (S 11) false false rfl e23 e35; simp only [cond_true, cond_false] at q; exact q)) ?_
          refine o_move rfl rfl guard_none (look_o rfl rfl) (fun _ => rfl) ?_
          apply h_endA (α := z99α) (z99α.1, z99α.2.1, z99α.2.2)
          · exact (.same (.same (.same (.same (.same (.same (.same (.same (.same (.same (.same (.same (.same (.same (.same (.same (.same (.same (.same (.same (.same (.same (.same (.same (.same (.same (.same (.same (.same (.same (.same (.same (.same (.same (.same (.same (.same (.same (.same .nil)))))))))))))))))))))))))))))))))))))))
          · exact rfl
          · exact rfl
          · exact rfl
          · exact hB (z99α.1, z99α.2.1, z99α.2.2) (fun k => S k || Nat.beq k 14) (S 11) false false (or_ne rfl) (or_f e23 rfl) (or_f e35 rfl)
        · intro z99α S hc hk hp
          have e23 : S 23 = false := (not_yet (j := 23) (q := 1) hc (not_yet (j := 17) (q := 0) hc (not_yet (j := 16) (q := 0) hc hk rfl rfl rfl rfl) rfl rfl rfl rfl) rfl rfl rfl rfl)
          have e35 : S 35 = false := (not_yet (j := 35) (q := 3) hc (not_yet (j := 23) (q := 1) hc (not_yet (j := 17) (q := 0) hc (not_yet (j := 16) (q := 0) hc hk rfl rfl rfl rfl) rfl rfl rfl rfl) rfl rfl rfl rfl) rfl rfl rfl rfl)
          refine eq_H (H' := [.vec z98α.1 (T_deque_Cell_rep) z98.2.1.was.cells, .obj true z16 z17 (.dat (T_tally_Tally_repo z98α.1)) z98.2.1, .vec z98α.2.1 (T_deque_Cell_rep) z98.2.2.1.was.cells, .obj true z11 z12 (.dat (T_tally_Tally_repo z98α.2.1)) z98.2.2.1, (cond (S 11) (.gone) (.vec z98α.2.2 (T_deque_Cell_rep) z98.2.2.2.was.cells)), (cond (S 11) (.obj true z6 z7 (.dat (T_tally_Tally_repo z99α.1)) z102.2) (.obj true z6 z7 (.dat (T_tally_Tally_repo z98α.2.2)) z98.2.2.2)), (cond (S 11) (.vec (z99α.1) (T_deque_Cell_rep) z102.2.was.cells) (.gone)), .gone, .gone]) (by first | exact hB z99α S (S 11) false false rfl e23 e35 | (have q := hB z99α S (S 11) false false rfl e23 e35; simp only [cond_true, cond_false] at q; exact q)) ?_
          refine o_from (bind_eqO h_z104) ?_
          refine o_iaddr Try.underlying44 type49 rfl rfl (look_d rfl rfl (pr hp 0 rfl rfl)) (look_d rfl rfl (pr hp 1 rfl rfl)) rfl rfl (o_eqO ?_)
          apply h_endA (α := z99α) (z99α.1, z99α.2.1, z99α.2.2)
          · exact (.same (.same (.same (.same (.same (.same (.same (.same (.same (.same (.same (.same (.same (.same (.same (.same (.same (.same (.same (.same (.same (.same (.same (.same (.same (.same (.same (.same (.same (.same (.same (.same (.same (.same (.same (.same (.same (.same (.same .nil)))))))))))))))))))))))))))))))))))))))
          · exact rfl
          · exact rfl
          · exact rfl
          · exact hB (z99α.1, z99α.2.1, z99α.2.2) (fun k => S k || Nat.beq k 15) (S 11) false false (or_ne rfl) (or_f e23 rfl) (or_f e35 rfl)
        · intro z99α S hc hk hp
          have e23 : S 23 = false := (not_yet (j := 23) (q := 1) hc (not_yet (j := 17) (q := 0) hc hk rfl rfl rfl rfl) rfl rfl rfl rfl)
          have e35 : S 35 = false := (not_yet (j := 35) (q := 3) hc (not_yet (j := 23) (q := 1) hc (not_yet (j := 17) (q := 0) hc hk rfl rfl rfl rfl) rfl rfl rfl rfl) rfl rfl rfl rfl)
          refine eq_H (H' := [.vec z98α.1 (T_deque_Cell_rep) z98.2.1.was.cells, .obj true z16 z17 (.dat (T_tally_Tally_repo z98α.1)) z98.2.1, .vec z98α.2.1 (T_deque_Cell_rep) z98.2.2.1.was.cells, .obj true z11 z12 (.dat (T_tally_Tally_repo z98α.2.1)) z98.2.2.1, (cond (S 11) (.gone) (.vec z98α.2.2 (T_deque_Cell_rep) z98.2.2.2.was.cells)), (cond (S 11) (.obj true z6 z7 (.dat (T_tally_Tally_repo z99α.1)) z102.2) (.obj true z6 z7 (.dat (T_tally_Tally_repo z98α.2.2)) z98.2.2.2)), (cond (S 11) (.vec (z99α.1) (T_deque_Cell_rep) z102.2.was.cells) (.gone)), .gone, .gone]) (by first | exact hB z99α S (S 11) false false rfl e23 e35 | (have q := hB z99α S (S 11) false false rfl e23 e35; simp only [cond_true, cond_false] at q; exact q)) ?_
          refine o_fptr field49_0 type2 (by decide) T_law17_Step_foc0 rfl rfl guard_none (look_d rfl rfl (pr hp 0 rfl rfl)) (fun _ => rfl) ?_
          apply h_endA (α := z99α) (z99α.1, z99α.2.1, z99α.2.2)
          · exact (.same (.same (.same (.same (.same (.same (.same (.same (.same (.same (.same (.same (.same (.same (.same (.same (.same (.same (.same (.same (.same (.same (.same (.same (.same (.same (.same (.same (.same (.same (.same (.same (.same (.same (.same (.same (.same (.same (.same .nil)))))))))))))))))))))))))))))))))))))))
          · exact rfl
          · exact rfl
          · exact rfl
          · exact hB (z99α.1, z99α.2.1, z99α.2.2) (fun k => S k || Nat.beq k 16) (S 11) false false (or_ne rfl) (or_f e23 rfl) (or_f e35 rfl)
        · intro z99α S hc hk hp
          have e23 : S 23 = false := (not_yet (j := 23) (q := 1) hc hk rfl rfl rfl rfl)
          have e35 : S 35 = false := (not_yet (j := 35) (q := 3) hc (not_yet (j := 23) (q := 1) hc hk rfl rfl rfl rfl) rfl rfl rfl rfl)
          refine eq_H (H' := [.vec z98α.1 (T_deque_Cell_rep) z98.2.1.was.cells, .obj true z16 z17 (.dat (T_tally_Tally_repo z98α.1)) z98.2.1, .vec z98α.2.1 (T_deque_Cell_rep) z98.2.2.1.was.cells, .obj true z11 z12 (.dat (T_tally_Tally_repo z98α.2.1)) z98.2.2.1, (cond (S 11) (.gone) (.vec z98α.2.2 (T_deque_Cell_rep) z98.2.2.2.was.cells)), (cond (S 11) (.obj true z6 z7 (.dat (T_tally_Tally_repo z99α.1)) z102.2) (.obj true z6 z7 (.dat (T_tally_Tally_repo z98α.2.2)) z98.2.2.2)), (cond (S 11) (.vec (z99α.1) (T_deque_Cell_rep) z102.2.was.cells) (.gone)), .gone, .gone]) (by first | exact hB z99α S (S 11) false false rfl e23 e35 | (have q := hB z99α S (S 11) false false rfl e23 e35; simp only [cond_true, cond_false] at q; exact q)) ?_
          refine o_load type2 rfl rfl guard_none (look_d rfl rfl (pr hp 0 rfl rfl)) (fun _ => rfl) ?_
          apply h_endA (α := z99α) (z99α.1, z99α.2.1, z99α.2.2)
          · exact (.same (.same (.same (.same (.same (.same (.same (.same (.same (.same (.same (.same (.same (.same (.same (.same (.same (.same (.same (.same (.same (.same (.same (.same (.same (.same (.same (.same (.same (.same (.same (.same (.same (.same (.same (.same (.same (.same (.same .nil)))))))))))))))))))))))))))))))))))))))
          · exact rfl
          · exact rfl
          · exact rfl
          · exact hB (z99α.1, z99α.2.1, z99α.2.2) (fun k => S k || Nat.beq k 17) (S 11) false false (or_ne rfl) (or_f e23 rfl) (or_f e35 rfl)
        · intro z99α S hc hk hp
          have e23 : S 23 = false := (not_yet (j := 23) (q := 2) hc (not_yet (j := 22) (q := 0) hc (not_yet (j := 21) (q := 0) hc (not_yet (j := 20) (q := 0) hc hk rfl rfl rfl rfl) rfl rfl rfl rfl) rfl rfl rfl rfl) rfl rfl rfl rfl)
          have e35 : S 35 = false := (not_yet (j := 35) (q := 3) hc (not_yet (j := 23) (q := 2) hc (not_yet (j := 22) (q := 0) hc (not_yet (j := 21) (q := 0) hc (not_yet (j := 20) (q := 0) hc hk rfl rfl rfl rfl) rfl rfl rfl rfl) rfl rfl rfl rfl) rfl rfl rfl rfl) rfl rfl rfl rfl)
          refine eq_H (H' := [.vec z98α.1 (T_deque_Cell_rep) z98.2.1.was.cells, .obj true z16 z17 (.dat (T_tally_Tally_repo z98α.1)) z98.2.1, .vec z98α.2.1 (T_deque_Cell_rep) z98.2.2.1.was.cells, .obj true z11 z12 (.dat (T_tally_Tally_repo z98α.2.1)) z98.2.2.1, (cond (S 11) (.gone) (.vec z98α.2.2 (T_deque_Cell_rep) z98.2.2.2.was.cells)), (cond (S 11) (.obj true z6 z7 (.dat (T_tally_Tally_repo z99α.1)) z102.2) (.obj true z6 z7 (.dat (T_tally_Tally_repo z98α.2.2)) z98.2.2.2)), (cond (S 11) (.vec (z99α.1) (T_deque_Cell_rep) z102.2.was.cells) (.gone)), .gone, .gone]) (by first | exact hB z99α S (S 11) false false rfl e23 e35 | (have q := hB z99α S (S 11) false false rfl e23 e35; simp only [cond_true, cond_false] at q; exact q)) ?_
          refine o_move rfl rfl guard_none (look_o rfl rfl) (fun _ => rfl) ?_
          apply h_endA (α := z99α) (z99α.1, z99α.2.1, z99α.2.2)
          · exact (.same (.same (.same (.same (.same (.same (.same (.same (.same (.same (.same (.same (.same (.same (.same (.same (.same (.same (.same (.same (.same (.same (.same (.same (.same (.same (.same (.same (.same (.same (.same (.same (.same (.same (.same (.same (.same (.same (.same .nil)))))))))))))))))))))))))))))))))))))))
          · exact rfl
          · exact rfl
          · exact rfl
          · exact hB (z99α.1, z99α.2.1, z99α.2.2) (fun k => S k || Nat.beq k 18) (S 11) false false (or_ne rfl) (or_f e23 rfl) (or_f e35 rfl)
        · intro z99α S hc hk hp
          have e23 : S 23 = false := (not_yet (j := 23) (q := 2) hc (not_yet (j := 22) (q := 0) hc (not_yet (j := 21) (q := 0) hc (not_yet (j := 20) (q := 1) hc hk rfl rfl rfl rfl) rfl rfl rfl rfl) rfl rfl rfl rfl) rfl rfl rfl rfl)
          have e35 : S 35 = false := (not_yet (j := 35) (q := 3) hc (not_yet (j := 23) (q := 2) hc (not_yet (j := 22) (q := 0) hc (not_yet (j := 21) (q := 0) hc (not_yet (j := 20) (q := 1) hc hk rfl rfl rfl rfl) rfl rfl rfl rfl) rfl rfl rfl rfl) rfl rfl rfl rfl) rfl rfl rfl rfl)
          refine eq_H (H' := [.vec z98α.1 (T_deque_Cell_rep) z98.2.1.was.cells, .obj true z16 z17 (.dat (T_tally_Tally_repo z98α.1)) z98.2.1, .vec z98α.2.1 (T_deque_Cell_rep) z98.2.2.1.was.cells, .obj true z11 z12 (.dat (T_tally_Tally_repo z98α.2.1)) z98.2.2.1, (cond (S 11) (.gone) (.vec z98α.2.2 (T_deque_Cell_rep) z98.2.2.2.was.cells)), (cond (S 11) (.obj true z6 z7 (.dat (T_tally_Tally_repo z99α.1)) z102.2) (.obj true z6 z7 (.dat (T_tally_Tally_repo z98α.2.2)) z98.2.2.2)), (cond (S 11) (.vec (z99α.1) (T_deque_Cell_rep) z102.2.was.cells) (.gone)), .gone, .gone]) (by first | exact hB z99α S (S 11) false false rfl e23 e35 | (have q := hB z99α S (S 11) false false rfl e23 e35; simp only [cond_true, cond_false] at q; exact q)) ?_
          refine o_move rfl rfl guard_none (look_o rfl rfl) (fun _ => rfl) ?_
          apply h_endA (α := z99α) (z99α.1, z99α.2.1, z99α.2.2)
          · exact (.same (.same (.same (.same (.same (.same (.same (.same (.same (.same (.same (.same (.same (.same (.same (.same (.same (.same (.same (.same (.same (.same (.same (.same (.same (.same (.same (.same (.same (.same (.same (.same (.same (.same (.same (.same (.same (.same (.same .nil)))))))))))))))))))))))))))))))))))))))
          · exact rfl
          · exact rfl
          · exact rfl
          · exact hB (z99α.1, z99α.2.1, z99α.2.2) (fun k => S k || Nat.beq k 19) (S 11) false false (or_ne rfl) (or_f e23 rfl) (or_f e35 rfl)
        · intro z99α S hc hk hp
          have e23 : S 23 = false := (not_yet (j := 23) (q := 2) hc (not_yet (j := 22) (q := 0) hc (not_yet (j := 21) (q := 0) hc hk rfl rfl rfl rfl) rfl rfl rfl rfl) rfl rfl rfl rfl)
          have e35 : S 35 = false := (not_yet (j := 35) (q := 3) hc (not_yet (j := 23) (q := 2) hc (not_yet (j := 22) (q := 0) hc (not_yet (j := 21) (q := 0) hc hk rfl rfl rfl rfl) rfl rfl rfl rfl) rfl rfl rfl rfl) rfl rfl rfl rfl)
          refine eq_H (H' := [.vec z98α.1 (T_deque_Cell_rep) z98.2.1.was.cells, .obj true z16 z17 (.dat (T_tally_Tally_repo z98α.1)) z98.2.1, .vec z98α.2.1 (T_deque_Cell_rep) z98.2.2.1.was.cells, .obj true z11 z12 (.dat (T_tally_Tally_repo z98α.2.1)) z98.2.2.1, (cond (S 11) (.gone) (.vec z98α.2.2 (T_deque_Cell_rep) z98.2.2.2.was.cells)), (cond (S 11) (.obj true z6 z7 (.dat (T_tally_Tally_repo z99α.1)) z102.2) (.obj true z6 z7 (.dat (T_tally_Tally_repo z98α.2.2)) z98.2.2.2)), (cond (S 11) (.vec (z99α.1) (T_deque_Cell_rep) z102.2.was.cells) (.gone)), .gone, .gone]) (by first | exact hB z99α S (S 11) false false rfl e23 e35 | (have q := hB z99α S (S 11) false false rfl e23 e35; simp only [cond_true, cond_false] at q; exact q)) ?_
          refine o_from (bind_eqO h_z105) ?_
          refine o_iaddr Try.underlying44 type49 rfl rfl (look_d rfl rfl (pr hp 0 rfl rfl)) (look_d rfl rfl (pr hp 1 rfl rfl)) rfl rfl (o_eqO ?_)
          apply h_endA (α := z99α) (z99α.1, z99α.2.1, z99α.2.2)
          · exact (.same (.same (.same (.same (.same (.same (.same (.same (.same (.same (.same (.same (.same (.same (.same (.same (.same (.same (.same (.same (.same (.same (.same (.same (.same (.same (.same (.same (.same (.same (.same (.same (.same (.same (.same (.same (.same (.same (.same .nil)))))))))))))))))))))))))))))))))))))))
          · exact rfl
          · exact rfl
          · exact rfl
          · exact hB (z99α.1, z99α.2.1, z99α.2.2) (fun k => S k || Nat.beq k 20) (S 11) false false (or_ne rfl) (or_f e23 rfl) (or_f e35 rfl)
        · intro z99α S hc hk hp
          have e23 : S 23 = false := (not_yet (j := 23) (q := 2) hc (not_yet (j := 22) (q := 0) hc hk rfl rfl rfl rfl) rfl rfl rfl rfl)
          have e35 : S 35 = false := (not_yet (j := 35) (q := 3) hc (not_yet (j := 23) (q := 2) hc (not_yet (j := 22) (q := 0) hc hk rfl rfl rfl rfl) rfl rfl rfl rfl) rfl rfl rfl rfl)
          refine eq_H (H' := [.vec z98α.1 (T_deque_Cell_rep) z98.2.1.was.cells, .obj true z16 z17 (.dat (T_tally_Tally_repo z98α.1)) z98.2.1, .vec z98α.2.1 (T_deque_Cell_rep) z98.2.2.1.was.cells, .obj true z11 z12 (.dat (T_tally_Tally_repo z98α.2.1)) z98.2.2.1, (cond (S 11) (.gone) (.vec z98α.2.2 (T_deque_Cell_rep) z98.2.2.2.was.cells)), (cond (S 11) (.obj true z6 z7 (.dat (T_tally_Tally_repo z99α.1)) z102.2) (.obj true z6 z7 (.dat (T_tally_Tally_repo z98α.2.2)) z98.2.2.2)), (cond (S 11) (.vec (z99α.1) (T_deque_Cell_rep) z102.2.was.cells) (.gone)), .gone, .gone]) (by first | exact hB z99α S (S 11) false false rfl e23 e35 | (have q := hB z99α S (S 11) false false rfl e23 e35; simp only [cond_true, cond_false] at q; exact q)) ?_
          refine o_fptr field49_1 type4 (by decide) T_law17_Step_foc1 rfl rfl guard_none (look_d rfl rfl (pr hp 0 rfl rfl)) (fun _ => rfl) ?_
          apply h_endA (α := z99α) (z99α.1, z99α.2.1, z99α.2.2)
          · exact (.same (.same (.same (.same (.same (.same (.same (.same (.same (.same (.same (.same (.same (.same (.same (.same (.same (.same (.same (.same (.same (.same (.same (.same (.same (.same (.same (.same (.same (.same (.same (.same (.same (.same (.same (.same (.same (.same (.same .nil)))))))))))))))))))))))))))))))))))))))
          · exact rfl
          · exact rfl
          · exact rfl
          · exact hB (z99α.1, z99α.2.1, z99α.2.2) (fun k => S k || Nat.beq k 21) (S 11) false false (or_ne rfl) (or_f e23 rfl) (or_f e35 rfl)
        · intro z99α S hc hk hp
          have e23 : S 23 = false := (not_yet (j := 23) (q := 2) hc hk rfl rfl rfl rfl)
          have e35 : S 35 = false := (not_yet (j := 35) (q := 3) hc (not_yet (j := 23) (q := 2) hc hk rfl rfl rfl rfl) rfl rfl rfl rfl)
          refine eq_H (H' := [.vec z98α.1 (T_deque_Cell_rep) z98.2.1.was.cells, .obj true z16 z17 (.dat (T_tally_Tally_repo z98α.1)) z98.2.1, .vec z98α.2.1 (T_deque_Cell_rep) z98.2.2.1.was.cells, .obj true z11 z12 (.dat (T_tally_Tally_repo z98α.2.1)) z98.2.2.1, (cond (S 11) (.gone) (.vec z98α.2.2 (T_deque_Cell_rep) z98.2.2.2.was.cells)), (cond (S 11) (.obj true z6 z7 (.dat (T_tally_Tally_repo z99α.1)) z102.2) (.obj true z6 z7 (.dat (T_tally_Tally_repo z98α.2.2)) z98.2.2.2)), (cond (S 11) (.vec (z99α.1) (T_deque_Cell_rep) z102.2.was.cells) (.gone)), .gone, .gone]) (by first | exact hB z99α S (S 11) false false rfl e23 e35 | (have q := hB z99α S (S 11) false false rfl e23 e35; simp only [cond_true, cond_false] at q; exact q)) ?_
          refine o_load type4 rfl rfl guard_none (look_d rfl rfl (pr hp 0 rfl rfl)) (fun _ => rfl) ?_
          apply h_endA (α := z99α) (z99α.1, z99α.2.1, z99α.2.2)
          · exact (.same (.same (.same (.same (.same (.same (.same (.same (.same (.same (.same (.same (.same (.same (.same (.same (.same (.same (.same (.same (.same (.same (.same (.same (.same (.same (.same (.same (.same (.same (.same (.same (.same (.same (.same (.same (.same (.same (.same .nil)))))))))))))))))))))))))))))))))))))))
          · exact rfl
          · exact rfl
          · exact rfl
          · exact hB (z99α.1, z99α.2.1, z99α.2.2) (fun k => S k || Nat.beq k 22) (S 11) false false (or_ne rfl) (or_f e23 rfl) (or_f e35 rfl)
        · intro z99α S hc hk hp
          have e11 : S 11 = true := (pr hp 3 rfl rfl)
          have e35 : S 35 = false := (not_yet (j := 35) (q := 3) hc hk rfl rfl rfl rfl)
          refine eq_H (H' := [.vec z98α.1 (T_deque_Cell_rep) z98.2.1.was.cells, .obj true z16 z17 (.dat (T_tally_Tally_repo z98α.1)) z98.2.1, .vec z98α.2.1 (T_deque_Cell_rep) z98.2.2.1.was.cells, .obj true z11 z12 (.dat (T_tally_Tally_repo z98α.2.1)) z98.2.2.1, .gone, .obj true z6 z7 (.dat (T_tally_Tally_repo z99α.1)) z102.2, .vec (z99α.1) (T_deque_Cell_rep) z102.2.was.cells, .gone, .gone]) (by first | exact hB z99α S true false false e11 hk e35 | (have q := hB z99α S true false false e11 hk e35; simp only [cond_true, cond_false] at q; exact q)) ?_
          refine o_from (bind_eqO h_z106) ?_
          refine o_weak (H' := [.vec z98α.2.1 (T_deque_Cell_rep) z98.2.2.1.was.cells, .obj true z11 z12 (.dat (T_tally_Tally_repo z98α.2.1)) z98.2.2.1] ++ ([] ++ [.vec z98α.1 (T_deque_Cell_rep) z98.2.1.was.cells, .obj true z16 z17 (.dat (T_tally_Tally_repo z98α.1)) z98.2.1, .gone, .obj true z6 z7 (.dat (T_tally_Tally_repo z99α.1)) z102.2, .vec (z99α.1) (T_deque_Cell_rep) z102.2.was.cells, .gone, .gone])) (sub_pick [2, 3, 0, 1, 4, 5, 6, 7, 8] rfl rfl) ?_
          refine o_callU rfl rfl rfl rfl rfl callable23 (looks_cons (look_d rfl rfl (pr hp 0 rfl rfl)) (fun _ => rfl) (looks_cons (look_d rfl rfl (pr hp 1 rfl rfl)) (fun _ => rfl) (looks_cons (look_d rfl rfl (pr hp 2 rfl rfl)) (fun _ => rfl) (looks_nil)))) .nil (tally_Tally_Step_ok _ _ _ z98.2.2.1 z104.At z105.Is) (fun _ _ => (wr_v (wr_c wr_n))) (fun z107α => o_eqOH ?_)
          refine o_weak (H' := [.vec z107α (T_deque_Cell_rep) z106.2.was.cells, .obj true z11 z12 (.dat (T_tally_Tally_repo z107α)) z106.2, .vec z98α.1 (T_deque_Cell_rep) z98.2.1.was.cells, .obj true z16 z17 (.dat (T_tally_Tally_repo z98α.1)) z98.2.1, .gone, .obj true z6 z7 (.dat (T_tally_Tally_repo z99α.1)) z102.2, .vec (z99α.1) (T_deque_Cell_rep) z102.2.was.cells, .gone, .gone]) (sub_pick [0, 1, 2, 3, 4, 5, 6, 7, 8] rfl rfl) ?_
          refine o_weak sub_gone ?_
          refine o_weak (H' := [.vec z98α.1 (T_deque_Cell_rep) z98.2.1.was.cells, .obj true z16 z17 (.dat (T_tally_Tally_repo z98α.1)) z98.2.1, .gone, .obj true z11 z12 (.dat (T_tally_Tally_repo z107α)) z106.2, .gone, .obj true z6 z7 (.dat (T_tally_Tally_repo z99α.1)) z102.2, .vec (z99α.1) (T_deque_Cell_rep) z102.2.was.cells, .vec z107α (T_deque_Cell_rep) z106.2.was.cells, .gone]) (sub_pick [3, 4, 0, 2, 5, 6, 7, 1, 9] rfl rfl) ?_
          apply h_endA (α := z99α) (z99α.1, z107α, z99α.2.2)
          · exact (.same (.same (.same (.same (.same (.same (.same (.same (.same (.same (.same (.same (.same (.same (.same (.same (.same (.same (.same (.same (.same (.same (.same (.same (.same (.same (.same (.same (.same (.same (.same (.same (.same (.same (.same (.same (.same (.same (.same .nil)))))))))))))))))))))))))))))))))))))))
          · exact rfl
          · exact rfl
          · exact rfl
          · exact hB (z99α.1, z107α, z99α.2.2) (fun k => S k || Nat.beq k 23) true true false (or_t e11) (or_i rfl) (or_f e35 rfl)
        · intro z99α S hc hk hp
          have e35 : S 35 = false := (not_yet (j := 35) (q := 0) hc hk rfl rfl rfl rfl)
          refine eq_H (H' := [.vec z98α.1 (T_deque_Cell_rep) z98.2.1.was.cells, .obj true z16 z17 (.dat (T_tally_Tally_repo z98α.1)) z98.2.1, (cond (S 23) (.gone) (.vec z98α.2.1 (T_deque_Cell_rep) z98.2.2.1.was.cells)), (cond (S 23) (.obj true z11 z12 (.dat (T_tally_Tally_repo z99α.2.1)) z106.2) (.obj true z11 z12 (.dat (T_tally_Tally_repo z98α.2.1)) z98.2.2.1)), (cond (S 11) (.gone) (.vec z98α.2.2 (T_deque_Cell_rep) z98.2.2.2.was.cells)), (cond (S 11) (.obj true z6 z7 (.dat (T_tally_Tally_repo z99α.1)) z102.2) (.obj true z6 z7 (.dat (T_tally_Tally_repo z98α.2.2)) z98.2.2.2)), (cond (S 11) (.vec (z99α.1) (T_deque_Cell_rep) z102.2.was.cells) (.gone)), (cond (S 23) (.vec (z99α.2.1) (T_deque_Cell_rep) z106.2.was.cells) (.gone)), .gone]) (by first | exact hB z99α S (S 11) (S 23) false rfl rfl e35 | (have q := hB z99α S (S 11) (S 23) false rfl rfl e35; simp only [cond_true, cond_false] at q; exact q)) ?_
          refine o_move rfl rfl guard_none (look_o rfl rfl) (fun _ => rfl) ?_
          apply h_endA (α := z99α) (z99α.1, z99α.2.1, z99α.2.2)
          · exact (.same (.same (.same (.same (.same (.same (.same (.same (.same (.same (.same (.same (.same (.same (.same (.same (.same (.same (.same (.same (.same (.same (.same (.same (.same (.same (.same (.same (.same (.same (.same (.same (.same (.same (.same (.same (.same (.same (.same .nil)))))))))))))))))))))))))))))))))))))))
          · exact rfl
          · exact rfl
          · exact rfl
          · exact hB (z99α.1, z99α.2.1, z99α.2.2) (fun k => S k || Nat.beq k 24) (S 11) (S 23) false (or_ne rfl) (or_ne rfl) (or_f e35 rfl)
        · intro z99α S hc hk hp
          have e35 : S 35 = false := (not_yet (j := 35) (q := 1) hc (not_yet (j := 29) (q := 0) hc (not_yet (j := 28) (q := 0) hc (not_yet (j := 27) (q := 0) hc hk rfl rfl rfl rfl) rfl rfl rfl rfl) rfl rfl rfl rfl) rfl rfl rfl rfl)
          refine eq_H (H' := [.vec z98α.1 (T_deque_Cell_rep) z98.2.1.was.cells, .obj true z16 z17 (.dat (T_tally_Tally_repo z98α.1)) z98.2.1, (cond (S 23) (.gone) (.vec z98α.2.1 (T_deque_Cell_rep) z98.2.2.1.was.cells)), (cond (S 23) (.obj true z11 z12 (.dat (T_tally_Tally_repo z99α.2.1)) z106.2) (.obj true z11 z12 (.dat (T_tally_Tally_repo z98α.2.1)) z98.2.2.1)), (cond (S 11) (.gone) (.vec z98α.2.2 (T_deque_Cell_rep) z98.2.2.2.was.cells)), (cond (S 11) (.obj true z6 z7 (.dat (T_tally_Tally_repo z99α.1)) z102.2) (.obj true z6 z7 (.dat (T_tally_Tally_repo z98α.2.2)) z98.2.2.2)), (cond (S 11) (.vec (z99α.1) (T_deque_Cell_rep) z102.2.was.cells) (.gone)), (cond (S 23) (.vec (z99α.2.1) (T_deque_Cell_rep) z106.2.was.cells) (.gone)), .gone]) (by first | exact hB z99α S (S 11) (S 23) false rfl rfl e35 | (have q := hB z99α S (S 11) (S 23) false rfl rfl e35; simp only [cond_true, cond_false] at q; exact q)) ?_
          refine o_move rfl rfl guard_none (look_o rfl rfl) (fun _ => rfl) ?_
          apply h_endA (α := z99α) (z99α.1, z99α.2.1, z99α.2.2)
          · exact (.same (.same (.same (.same (.same (.same (.same (.same (.same (.same (.same (.same (.same (.same (.same (.same (.same (.same (.same (.same (.same (.same (.same (.same (.same (.same (.same (.same (.same (.same (.same (.same (.same (.same (.same (.same (.same (.same (.same .nil)))))))))))))))))))))))))))))))))))))))
          · exact rfl
          · exact rfl
          · exact rfl
          · exact hB (z99α.1, z99α.2.1, z99α.2.2) (fun k => S k || Nat.beq k 25) (S 11) (S 23) false (or_ne rfl) (or_ne rfl) (or_f e35 rfl)
        · intro z99α S hc hk hp
          have e35 : S 35 = false := (not_yet (j := 35) (q := 1) hc (not_yet (j := 29) (q := 0) hc (not_yet (j := 28) (q := 0) hc (not_yet (j := 27) (q := 1) hc hk rfl rfl rfl rfl) rfl rfl rfl rfl) rfl rfl rfl rfl) rfl rfl rfl rfl)
          refine eq_H (H' := [.vec z98α.1 (T_deque_Cell_rep) z98.2.1.was.cells, .obj true z16 z17 (.dat (T_tally_Tally_repo z98α.1)) z98.2.1, (cond (S 23) (.gone) (.vec z98α.2.1 (T_deque_Cell_rep) z98.2.2.1.was.cells)), (cond (S 23) (.obj true z11 z12 (.dat (T_tally_Tally_repo z99α.2.1)) z106.2) (.obj true z11 z12 (.dat (T_tally_Tally_repo z98α.2.1)) z98.2.2.1)), (cond (S 11) (.gone) (.vec z98α.2.2 (T_deque_Cell_rep) z98.2.2.2.was.cells)), (cond (S 11) (.obj true z6 z7 (.dat (T_tally_Tally_repo z99α.1)) z102.2) (.obj true z6 z7 (.dat (T_tally_Tally_repo z98α.2.2)) z98.2.2.2)), (cond (S 11) (.vec (z99α.1) (T_deque_Cell_rep) z102.2.was.cells) (.gone)), (cond (S 23) (.vec (z99α.2.1) (T_deque_Cell_rep) z106.2.was.cells) (.gone)), .gone]) (by first | exact hB z99α S (S 11) (S 23) false rfl rfl e35 | (have q := hB z99α S (S 11) (S 23) false rfl rfl e35; simp only [cond_true, cond_false] at q; exact q)) ?_
          refine o_move rfl rfl guard_none (look_o rfl rfl) (fun _ => rfl) ?_
          apply h_endA (α := z99α) (z99α.1, z99α.2.1, z99α.2.2)
          · exact (.same (.same (.same (.same (.same (.same (.same (.same (.same (.same (.same (.same (.same (.same (.same (.same (.same (.same (.same (.same (.same (.same (.same (.same (.same (.same (.same (.same (.same (.same (.same (.same (.same (.same (.same (.same (.same (.same (.same .nil)))))))))))))))))))))))))))))))))))))))
          · exact rfl
          · exact rfl
          · exact rfl
          · exact hB (z99α.1, z99α.2.1, z99α.2.2) (fun k => S k || Nat.beq k 26) (S 11) (S 23) false (or_ne rfl) (or_ne rfl) (or_f e35 rfl)
        · intro z99α S hc hk hp
          have e35 : S 35 = false := (not_yet (j := 35) (q := 1) hc (not_yet (j := 29) (q := 0) hc (not_yet (j := 28) (q := 0) hc hk rfl rfl rfl rfl) rfl rfl rfl rfl) rfl rfl rfl rfl)
          refine eq_H (H' := [.vec z98α.1 (T_deque_Cell_rep) z98.2.1.was.cells, .obj true z16 z17 (.dat (T_tally_Tally_repo z98α.1)) z98.2.1, (cond (S 23) (.gone) (.vec z98α.2.1 (T_deque_Cell_rep) z98.2.2.1.was.cells)), (cond (S 23) (.obj true z11 z12 (.dat (T_tally_Tally_repo z99α.2.1)) z106.2) (.obj true z11 z12 (.dat (T_tally_Tally_repo z98α.2.1)) z98.2.2.1)), (cond (S 11) (.gone) (.vec z98α.2.2 (T_deque_Cell_rep) z98.2.2.2.was.cells)), (cond (S 11) (.obj true z6 z7 (.dat (T_tally_Tally_repo z99α.1)) z102.2) (.obj true z6 z7 (.dat (T_tally_Tally_repo z98α.2.2)) z98.2.2.2)), (cond (S 11) (.vec (z99α.1) (T_deque_Cell_rep) z102.2.was.cells) (.gone)), (cond (S 23) (.vec (z99α.2.1) (T_deque_Cell_rep) z106.2.was.cells) (.gone)), .gone]) (by first | exact hB z99α S (S 11) (S 23) false rfl rfl e35 | (have q := hB z99α S (S 11) (S 23) false rfl rfl e35; simp only [cond_true, cond_false] at q; exact q)) ?_
          refine o_from (bind_eqO h_z108) ?_
          refine o_iaddr Try.underlying44 type49 rfl rfl (look_d rfl rfl (pr hp 0 rfl rfl)) (look_d rfl rfl (pr hp 1 rfl rfl)) rfl rfl (o_eqO ?_)
          apply h_endA (α := z99α) (z99α.1, z99α.2.1, z99α.2.2)
          · exact (.same (.same (.same (.same (.same (.same (.same (.same (.same (.same (.same (.same (.same (.same (.same (.same (.same (.same (.same (.same (.same (.same (.same (.same (.same (.same (.same (.same (.same (.same (.same (.same (.same (.same (.same (.same (.same (.same (.same .nil)))))))))))))))))))))))))))))))))))))))
          · exact rfl
          · exact rfl
          · exact rfl
          · exact hB (z99α.1, z99α.2.1, z99α.2.2) (fun k => S k || Nat.beq k 27) (S 11) (S 23) false (or_ne rfl) (or_ne rfl) (or_f e35 rfl)
        · intro z99α S hc hk hp
          have e35 : S 35 = false := (not_yet (j := 35) (q := 1) hc (not_yet (j := 29) (q := 0) hc hk rfl rfl rfl rfl) rfl rfl rfl rfl)
          refine eq_H (H' := [.vec z98α.1 (T_deque_Cell_rep) z98.2.1.was.cells, .obj true z16 z17 (.dat (T_tally_Tally_repo z98α.1)) z98.2.1, (cond (S 23) (.gone) (.vec z98α.2.1 (T_deque_Cell_rep) z98.2.2.1.was.cells)), (cond (S 23) (.obj true z11 z12 (.dat (T_tally_Tally_repo z99α.2.1)) z106.2) (.obj true z11 z12 (.dat (T_tally_Tally_repo z98α.2.1)) z98.2.2.1)), (cond (S 11) (.gone) (.vec z98α.2.2 (T_deque_Cell_rep) z98.2.2.2.was.cells)), (cond (S 11) (.obj true z6 z7 (.dat (T_tally_Tally_repo z99α.1)) z102.2) (.obj true z6 z7 (.dat (T_tally_Tally_repo z98α.2.2)) z98.2.2.2)), (cond (S 11) (.vec (z99α.1) (T_deque_Cell_rep) z102.2.was.cells) (.gone)), (cond (S 23) (.vec (z99α.2.1) (T_deque_Cell_rep) z106.2.was.cells) (.gone)), .gone]) (by first | exact hB z99α S (S 11) (S 23) false rfl rfl e35 | (have q := hB z99α S (S 11) (S 23) false rfl rfl e35; simp only [cond_true, cond_false] at q; exact q)) ?_
          refine o_fptr field49_0 type2 (by decide) T_law17_Step_foc0 rfl rfl guard_none (look_d rfl rfl (pr hp 0 rfl rfl)) (fun _ => rfl) ?_
          apply h_endA (α := z99α) (z99α.1, z99α.2.1, z99α.2.2)
          · exact (.same (.same (.same (.same (.same (.same (.same (.same (.same (.same (.same (.same (.same (.same (.same (.same (.same (.same (.same (.same (.same (.same (.same (.same (.same (.same (.same (.same (.same (.same (.same (.same (.same (.same (.same (.same (.same (.same (.same .nil)))))))))))))))))))))))))))))))))))))))
          · exact rfl
          · exact rfl
          · exact rfl
          · exact hB (z99α.1, z99α.2.1, z99α.2.2) (fun k => S k || Nat.beq k 28) (S 11) (S 23) false (or_ne rfl) (or_ne rfl) (or_f e35 rfl)
        · intro z99α S hc hk hp
          have e35 : S 35 = false := (not_yet (j := 35) (q := 1) hc hk rfl rfl rfl rfl)
          refine eq_H (H' := [.vec z98α.1 (T_deque_Cell_rep) z98.2.1.was.cells, .obj true z16 z17 (.dat (T_tally_Tally_repo z98α.1)) z98.2.1, (cond (S 23) (.gone) (.vec z98α.2.1 (T_deque_Cell_rep) z98.2.2.1.was.cells)), (cond (S 23) (.obj true z11 z12 (.dat (T_tally_Tally_repo z99α.2.1)) z106.2) (.obj true z11 z12 (.dat (T_tally_Tally_repo z98α.2.1)) z98.2.2.1)), (cond (S 11) (.gone) (.vec z98α.2.2 (T_deque_Cell_rep) z98.2.2.2.was.cells)), (cond (S 11) (.obj true z6 z7 (.dat (T_tally_Tally_repo z99α.1)) z102.2) (.obj true z6 z7 (.dat (T_tally_Tally_repo z98α.2.2)) z98.2.2.2)), (cond (S 11) (.vec (z99α.1) (T_deque_Cell_rep) z102.2.was.cells) (.gone)), (cond (S 23) (.vec (z99α.2.1) (T_deque_Cell_rep) z106.2.was.cells) (.gone)), .gone]) (by first | exact hB z99α S (S 11) (S 23) false rfl rfl e35 | (have q := hB z99α S (S 11) (S 23) false rfl rfl e35; simp only [cond_true, cond_false] at q; exact q)) ?_
          refine o_load type2 rfl rfl guard_none (look_d rfl rfl (pr hp 0 rfl rfl)) (fun _ => rfl) ?_
          apply h_endA (α := z99α) (z99α.1, z99α.2.1, z99α.2.2)
          · exact (.same (.same (.same (.same (.same (.same (.same (.same (.same (.same (.same (.same (.same (.same (.same (.same (.same (.same (.same (.same (.same (.same (.same (.same (.same (.same (.same (.same (.same (.same (.same (.same (.same (.same (.same (.same (.same (.same (.same .nil)))))))))))))))))))))))))))))))))))))))
          · exact rfl
          · exact rfl
          · exact rfl
          · exact hB (z99α.1, z99α.2.1, z99α.2.2) (fun k => S k || Nat.beq k 29) (S 11) (S 23) false (or_ne rfl) (or_ne rfl) (or_f e35 rfl)
        · intro z99α S hc hk hp
          have e35 : S 35 = false := (not_yet (j := 35) (q := 2) hc (not_yet (j := 34) (q := 0) hc (not_yet (j := 33) (q := 0) hc (not_yet (j := 32) (q := 0) hc hk rfl rfl rfl rfl) rfl rfl rfl rfl) rfl rfl rfl rfl) rfl rfl rfl rfl)
          refine eq_H (H' := [.vec z98α.1 (T_deque_Cell_rep) z98.2.1.was.cells, .obj true z16 z17 (.dat (T_tally_Tally_repo z98α.1)) z98.2.1, (cond (S 23) (.gone) (.vec z98α.2.1 (T_deque_Cell_rep) z98.2.2.1.was.cells)), (cond (S 23) (.obj true z11 z12 (.dat (T_tally_Tally_repo z99α.2.1)) z106.2) (.obj true z11 z12 (.dat (T_tally_Tally_repo z98α.2.1)) z98.2.2.1)), (cond (S 11) (.gone) (.vec z98α.2.2 (T_deque_Cell_rep) z98.2.2.2.was.cells)), (cond (S 11) (.obj true z6 z7 (.dat (T_tally_Tally_repo z99α.1)) z102.2) (.obj true z6 z7 (.dat (T_tally_Tally_repo z98α.2.2)) z98.2.2.2)), (cond (S 11) (.vec (z99α.1) (T_deque_Cell_rep) z102.2.was.cells) (.gone)), (cond (S 23) (.vec (z99α.2.1) (T_deque_Cell_rep) z106.2.was.cells) (.gone)), .gone]) (by first | exact hB z99α S (S 11) (S 23) false rfl rfl e35 | (have q := hB z99α S (S 11) (S 23) false rfl rfl e35; simp only [cond_true, cond_false] at q; exact q)) ?_
          refine o_move rfl rfl guard_none (look_o rfl rfl) (fun _ => rfl) ?_
          apply h_endA (α := z99α) (z99α.1, z99α.2.1, z99α.2.2)
          · exact (.same (.same (.same (.same (.same (.same (.same (.same (.same (.same (.same (.same (.same (.same (.same (.same (.same (.same (.same (.same (.same (.same (.same (.same (.same (.same (.same (.same (.same (.same (.same (.same (.same (.same (.same (.same (.same (.same (.same .nil)))))))))))))))))))))))))))))))))))))))
          · exact rfl
          · exact rfl
          · exact rfl
          · exact hB (z99α.1, z99α.2.1, z99α.2.2) (fun k => S k || Nat.beq k 30) (S 11) (S 23) false (or_ne rfl) (or_ne rfl) (or_f e35 rfl)
        · intro z99α S hc hk hp
          have e35 : S 35 = false := (not_yet (j := 35) (q := 2) hc (not_yet (j := 34) (q := 0) hc (not_yet (j := 33) (q := 0) hc (not_yet (j := 32) (q := 1) hc hk rfl rfl rfl rfl) rfl rfl rfl rfl) rfl rfl rfl rfl) rfl rfl rfl rfl)
          refine eq_H (H' := [.vec z98α.1 (T_deque_Cell_rep) z98.2.1.was.cells, .obj true z16 z17 (.dat (T_tally_Tally_repo z98α.1)) z98.2.1, (cond (S 23) (.gone) (.vec z98α.2.1 (T_deque_Cell_rep) z98.2.2.1.was.cells)), (cond (S 23) (.obj true z11 z12 (.dat (T_tally_Tally_repo z99α.2.1)) z106.2) (.obj true z11 z12 (.dat (T_tally_Tally_repo z98α.2.1)) z98.2.2.1)), (cond (S 11) (.gone) (.vec z98α.2.2 (T_deque_Cell_rep) z98.2.2.2.was.cells)), (cond (S 11) (.obj true z6 z7 (.dat (T_tally_Tally_repo z99α.1)) z102.2) (.obj true z6 z7 (.dat (T_tally_Tally_repo z98α.2.2)) z98.2.2.2)), (cond (S 11) (.vec (z99α.1) (T_deque_Cell_rep) z102.2.was.cells) (.gone)), (cond (S 23) (.vec (z99α.2.1) (T_deque_Cell_rep) z106.2.was.cells) (.gone)), .gone]) (by first | exact hB z99α S (S 11) (S 23) false rfl rfl e35 | (have q := hB z99α S (S 11) (S 23) false rfl rfl e35; simp only [cond_true, cond_false] at q; exact q)) ?_
          refine o_move rfl rfl guard_none (look_o rfl rfl) (fun _ => rfl) ?_
          apply h_endA (α := z99α) (z99α.1, z99α.2.1, z99α.2.2)
          · exact (.same (.same (.same (.same (.same (.same (.same (.same (.same (.same (.same (.same (.same (.same (.same (.same (.same (.same (.same (.same (.same (.same (.same (.same (.same (.same (.same (.same (.same (.same (.same (.same (.same (.same (.same (.same (.same (.same (.same .nil)))))))))))))))))))))))))))))))))))))))
          · exact rfl
          · exact rfl
          · exact rfl
          · exact hB (z99α.1, z99α.2.1, z99α.2.2) (fun k => S k || Nat.beq k 31) (S 11) (S 23) false (or_ne rfl) (or_ne rfl) (or_f e35 rfl)
        · intro z99α S hc hk hp
          have e35 : S 35 = false := (not_yet (j := 35) (q := 2) hc (not_yet (j := 34) (q := 0) hc (not_yet (j := 33) (q := 0) hc hk rfl rfl rfl rfl) rfl rfl rfl rfl) rfl rfl rfl rfl)
          refine eq_H (H' := [.vec z98α.1 (T_deque_Cell_rep) z98.2.1.was.cells, .obj true z16 z17 (.dat (T_tally_Tally_repo z98α.1)) z98.2.1, (cond (S 23) (.gone) (.vec z98α.2.1 (T_deque_Cell_rep) z98.2.2.1.was.cells)), (cond (S 23) (.obj true z11 z12 (.dat (T_tally_Tally_repo z99α.2.1)) z106.2) (.obj true z11 z12 (.dat (T_tally_Tally_repo z98α.2.1)) z98.2.2.1)), (cond (S 11) (.gone) (.vec z98α.2.2 (T_deque_Cell_rep) z98.2.2.2.was.cells)), (cond (S 11) (.obj true z6 z7 (.dat (T_tally_Tally_repo z99α.1)) z102.2) (.obj true z6 z7 (.dat (T_tally_Tally_repo z98α.2.2)) z98.2.2.2)), (cond (S 11) (.vec (z99α.1) (T_deque_Cell_rep) z102.2.was.cells) (.gone)), (cond (S 23) (.vec (z99α.2.1) (T_deque_Cell_rep) z106.2.was.cells) (.gone)), .gone]) (by first | exact hB z99α S (S 11) (S 23) false rfl rfl e35 | (have q := hB z99α S (S 11) (S 23) false rfl rfl e35; simp only [cond_true, cond_false] at q; exact q)) ?_
          refine o_from (bind_eqO h_z109) ?_
          refine o_iaddr Try.underlying44 type49 rfl rfl (look_d rfl rfl (pr hp 0 rfl rfl)) (look_d rfl rfl (pr hp 1 rfl rfl)) rfl rfl (o_eqO ?_)
          apply h_endA (α := z99α) (z99α.1, z99α.2.1, z99α.2.2)
          · exact (.same (.same (.same (.same (.same (.same (.same (.same (.same (.same (.same (.same (.same (.same (.same (.same (.same (.same (.same (.same (.same (.same (.same (.same (.same (.same (.same (.same (.same (.same (.same (.same (.same (.same (.same (.same (.same (.same (.same .nil)))))))))))))))))))))))))))))))))))))))
          · exact rfl
          · exact rfl
          · exact rfl
          · exact hB (z99α.1, z99α.2.1, z99α.2.2) (fun k => S k || Nat.beq k 32) (S 11) (S 23) false (or_ne rfl) (or_ne rfl) (or_f e35 rfl)
        · intro z99α S hc hk hp
          have e35 : S 35 = false := (not_yet (j := 35) (q := 2) hc (not_yet (j := 34) (q := 0) hc hk rfl rfl rfl rfl) rfl rfl rfl rfl)
          refine eq_H (H' := [.vec z98α.1 (T_deque_Cell_rep) z98.2.1.was.cells, .obj true z16 z17 (.dat (T_tally_Tally_repo z98α.1)) z98.2.1, (cond (S 23) (.gone) (.vec z98α.2.1 (T_deque_Cell_rep) z98.2.2.1.was.cells)), (cond (S 23) (.obj true z11 z12 (.dat (T_tally_Tally_repo z99α.2.1)) z106.2) (.obj true z11 z12 (.dat (T_tally_Tally_repo z98α.2.1)) z98.2.2.1)), (cond (S 11) (.gone) (.vec z98α.2.2 (T_deque_Cell_rep) z98.2.2.2.was.cells)), (cond (S 11) (.obj true z6 z7 (.dat (T_tally_Tally_repo z99α.1)) z102.2) (.obj true z6 z7 (.dat (T_tally_Tally_repo z98α.2.2)) z98.2.2.2)), (cond (S 11) (.vec (z99α.1) (T_deque_Cell_rep) z102.2.was.cells) (.gone)), (cond (S 23) (.vec (z99α.2.1) (T_deque_Cell_rep) z106.2.was.cells) (.gone)), .gone]) (by first | exact hB z99α S (S 11) (S 23) false rfl rfl e35 | (have q := hB z99α S (S 11) (S 23) false rfl rfl e35; simp only [cond_true, cond_false] at q; exact q)) ?_
          refine o_fptr field49_1 type4 (by decide) T_law17_Step_foc1 rfl rfl guard_none (look_d rfl rfl (pr hp 0 rfl rfl)) (fun _ => rfl) ?_
          apply h_endA (α := z99α) (z99α.1, z99α.2.1, z99α.2.2)
          · exact (.same (.same (.same (.same (.same (.same (.same (.same (.same (.same (.same (.same (.same (.same (.same (.same (.same (.same (.same (.same (.same (.same (.same (.same (.same (.same (.same (.same (.same (.same (.same (.same (.same (.same (.same (.same (.same (.same (.same .nil)))))))))))))))))))))))))))))))))))))))
          · exact rfl
          · exact rfl
          · exact rfl
          · exact hB (z99α.1, z99α.2.1, z99α.2.2) (fun k => S k || Nat.beq k 33) (S 11) (S 23) false (or_ne rfl) (or_ne rfl) (or_f e35 rfl)
        · intro z99α S hc hk hp
          have e35 : S 35 = false := (not_yet (j := 35) (q := 2) hc hk rfl rfl rfl rfl)
          refine eq_H (H' := [.vec z98α.1 (T_deque_Cell_rep) z98.2.1.was.cells, .obj true z16 z17 (.dat (T_tally_Tally_repo z98α.1)) z98.2.1, (cond (S 23) (.gone) (.vec z98α.2.1 (T_deque_Cell_rep) z98.2.2.1.was.cells)), (cond (S 23) (.obj true z11 z12 (.dat (T_tally_Tally_repo z99α.2.1)) z106.2) (.obj true z11 z12 (.dat (T_tally_Tally_repo z98α.2.1)) z98.2.2.1)), (cond (S 11) (.gone) (.vec z98α.2.2 (T_deque_Cell_rep) z98.2.2.2.was.cells)), (cond (S 11) (.obj true z6 z7 (.dat (T_tally_Tally_repo z99α.1)) z102.2) (.obj true z6 z7 (.dat (T_tally_Tally_repo z98α.2.2)) z98.2.2.2)), (cond (S 11) (.vec (z99α.1) (T_deque_Cell_rep) z102.2.was.cells) (.gone)), (cond (S 23) (.vec (z99α.2.1) (T_deque_Cell_rep) z106.2.was.cells) (.gone)), .gone]) (by first | exact hB z99α S (S 11) (S 23) false rfl rfl e35 | (have q := hB z99α S (S 11) (S 23) false rfl rfl e35; simp only [cond_true, cond_false] at q; exact q)) ?_
          refine o_load type4 rfl rfl guard_none (look_d rfl rfl (pr hp 0 rfl rfl)) (fun _ => rfl) ?_
          apply h_endA (α := z99α) (z99α.1, z99α.2.1, z99α.2.2)
          · exact (.same (.same (.same (.same (.same (.same (.same (.same (.same (.same (.same (.same (.same (.same (.same (.same (.same (.same (.same (.same (.same (.same (.same (.same (.same (.same (.same (.same (.same (.same (.same (.same (.same (.same (.same (.same (.same (.same (.same .nil)))))))))))))))))))))))))))))))))))))))
          · exact rfl
          · exact rfl
          · exact rfl
          · exact hB (z99α.1, z99α.2.1, z99α.2.2) (fun k => S k || Nat.beq k 34) (S 11) (S 23) false (or_ne rfl) (or_ne rfl) (or_f e35 rfl)
        · intro z99α S hc hk hp
          have e11 : S 11 = true := (pr (hc 23 _ rfl (pr hp 3 rfl rfl)) 3 rfl rfl)
          have e23 : S 23 = true := (pr hp 3 rfl rfl)
          refine eq_H (H' := [.vec z98α.1 (T_deque_Cell_rep) z98.2.1.was.cells, .obj true z16 z17 (.dat (T_tally_Tally_repo z98α.1)) z98.2.1, .gone, .obj true z11 z12 (.dat (T_tally_Tally_repo z99α.2.1)) z106.2, .gone, .obj true z6 z7 (.dat (T_tally_Tally_repo z99α.1)) z102.2, .vec (z99α.1) (T_deque_Cell_rep) z102.2.was.cells, .vec (z99α.2.1) (T_deque_Cell_rep) z106.2.was.cells, .gone]) (by first | exact hB z99α S true true false e11 e23 hk | (have q := hB z99α S true true false e11 e23 hk; simp only [cond_true, cond_false] at q; exact q)) ?_
          refine o_from (bind_eqO h_z110) ?_
          refine o_weak (H' := [.vec z98α.1 (T_deque_Cell_rep) z98.2.1.was.cells, .obj true z16 z17 (.dat (T_tally_Tally_repo z98α.1)) z98.2.1] ++ ([] ++ [.gone, .obj true z11 z12 (.dat (T_tally_Tally_repo z99α.2.1)) z106.2, .gone, .obj true z6 z7 (.dat (T_tally_Tally_repo z99α.1)) z102.2, .vec (z99α.1) (T_deque_Cell_rep) z102.2.was.cells, .vec (z99α.2.1) (T_deque_Cell_rep) z106.2.was.cells, .gone])) (sub_pick [0, 1, 2, 3, 4, 5, 6, 7, 8] rfl rfl) ?_
          refine o_callU rfl rfl rfl rfl rfl callable23 (looks_cons (look_d rfl rfl (pr hp 0 rfl rfl)) (fun _ => rfl) (looks_cons (look_d rfl rfl (pr hp 1 rfl rfl)) (fun _ => rfl) (looks_cons (look_d rfl rfl (pr hp 2 rfl rfl)) (fun _ => rfl) (looks_nil)))) .nil (tally_Tally_Step_ok _ _ _ z98.2.1 z108.At z109.Is) (fun _ _ => (wr_v (wr_c wr_n))) (fun z111α => o_eqOH ?_)
          refine o_weak (H' := [.vec z111α (T_deque_Cell_rep) z110.2.was.cells, .obj true z16 z17 (.dat (T_tally_Tally_repo z111α)) z110.2, .gone, .obj true z11 z12 (.dat (T_tally_Tally_repo z99α.2.1)) z106.2, .gone, .obj true z6 z7 (.dat (T_tally_Tally_repo z99α.1)) z102.2, .vec (z99α.1) (T_deque_Cell_rep) z102.2.was.cells, .vec (z99α.2.1) (T_deque_Cell_rep) z106.2.was.cells, .gone]) (sub_pick [0, 1, 2, 3, 4, 5, 6, 7, 8] rfl rfl) ?_
          refine o_weak sub_gone ?_
          refine o_weak (H' := [.gone, .obj true z16 z17 (.dat (T_tally_Tally_repo z111α)) z110.2, .gone, .obj true z11 z12 (.dat (T_tally_Tally_repo z99α.2.1)) z106.2, .gone, .obj true z6 z7 (.dat (T_tally_Tally_repo z99α.1)) z102.2, .vec (z99α.1) (T_deque_Cell_rep) z102.2.was.cells, .vec (z99α.2.1) (T_deque_Cell_rep) z106.2.was.cells, .vec z111α (T_deque_Cell_rep) z110.2.was.cells]) (sub_pick [0, 2, 3, 4, 5, 6, 7, 8, 1] rfl rfl) ?_
          apply h_endA (α := z99α) (z99α.1, z99α.2.1, z111α)
          · exact (.same (.same (.same (.same (.same (.same (.same (.same (.same (.same (.same (.same (.same (.same (.same (.same (.same (.same (.same (.same (.same (.same (.same (.same (.same (.same (.same (.same (.same (.same (.same (.same (.same (.same (.same (.same (.same (.same (.same .nil)))))))))))))))))))))))))))))))))))))))
          · exact rfl
          · exact rfl
          · exact rfl
          · exact hB (z99α.1, z99α.2.1, z111α) (fun k => S k || Nat.beq k 35) true true true (or_t e11) (or_t e23) (or_i rfl)
        · intro z99α S hc hk hp
          have e11 : S 11 = true := (pr hp 0 rfl rfl)
          have e23 : S 23 = true := (pr (hc 35 _ rfl (pr hp 1 rfl rfl)) 3 rfl rfl)
          have e35 : S 35 = true := (pr hp 1 rfl rfl)
          refine eq_H (H' := [.gone, .obj true z16 z17 (.dat (T_tally_Tally_repo z99α.2.2)) z110.2, .gone, .obj true z11 z12 (.dat (T_tally_Tally_repo z99α.2.1)) z106.2, .gone, .obj true z6 z7 (.dat (T_tally_Tally_repo z99α.1)) z102.2, .vec (z99α.1) (T_deque_Cell_rep) z102.2.was.cells, .vec (z99α.2.1) (T_deque_Cell_rep) z106.2.was.cells, .vec (z99α.2.2) (T_deque_Cell_rep) z110.2.was.cells]) (by first | exact hB z99α S true true true e11 e23 e35 | (have q := hB z99α S true true true e11 e23 e35; simp only [cond_true, cond_false] at q; exact q)) ?_
          refine o_assign rfl rfl guard_none (look_d rfl rfl (pr hp 0 rfl rfl)) (fun _ => rfl) ?_
          apply h_endA (α := z99α) (z99α.1, z99α.2.1, z99α.2.2)
          · exact (.same (.same (.same (.same (.same (.same (.same (.same (.same (.same (.same (.same (.same (.same (.same (.same (.same (.same (.same (.same (.same (.same (.same (.same (.same (.same (.same (.same (.same (.same (.same (.same (.same (.same (.same (.same (.same (.same (.same .nil)))))))))))))))))))))))))))))))))))))))
          · exact rfl
          · exact rfl
          · exact rfl
          · exact hB (z99α.1, z99α.2.1, z99α.2.2) (fun k => S k || Nat.beq k 36) true true true (or_t e11) (or_t e23) (or_t e35)
        · intro z99α S hc hk hp
          have e11 : S 11 = true := (pr hp 13 rfl rfl)
          have e23 : S 23 = true := (pr hp 0 rfl rfl)
          have e35 : S 35 = true := (pr (hc 36 _ rfl (pr hp 1 rfl rfl)) 1 rfl rfl)
          refine eq_H (H' := [.gone, .obj true z16 z17 (.dat (T_tally_Tally_repo z99α.2.2)) z110.2, .gone, .obj true z11 z12 (.dat (T_tally_Tally_repo z99α.2.1)) z106.2, .gone, .obj true z6 z7 (.dat (T_tally_Tally_repo z99α.1)) z102.2, .vec (z99α.1) (T_deque_Cell_rep) z102.2.was.cells, .vec (z99α.2.1) (T_deque_Cell_rep) z106.2.was.cells, .vec (z99α.2.2) (T_deque_Cell_rep) z110.2.was.cells]) (by first | exact hB z99α S true true true e11 e23 e35 | (have q := hB z99α S true true true e11 e23 e35; simp only [cond_true, cond_false] at q; exact q)) ?_
          refine o_assign rfl rfl guard_none (look_d rfl rfl (pr hp 0 rfl rfl)) (fun _ => rfl) ?_
          apply h_endA (α := z99α) (z99α.1, z99α.2.1, z99α.2.2)
          · exact (.same (.same (.same (.same (.same (.same (.same (.same (.same (.same (.same (.same (.same (.same (.same (.same (.same (.same (.same (.same (.same (.same (.same (.same (.same (.same (.same (.same (.same (.same (.same (.same (.same (.same (.same (.same (.same (.same (.same .nil)))))))))))))))))))))))))))))))))))))))
          · exact rfl
          · exact rfl
          · exact rfl
          · exact hB (z99α.1, z99α.2.1, z99α.2.2) (fun k => S k || Nat.beq k 37) true true true (or_t e11) (or_t e23) (or_t e35)
        · intro z99α S hc hk hp
          have e11 : S 11 = true := (pr hp 13 rfl rfl)
          have e23 : S 23 = true := (pr hp 25 rfl rfl)
          have e35 : S 35 = true := (pr hp 0 rfl rfl)
          refine eq_H (H' := [.gone, .obj true z16 z17 (.dat (T_tally_Tally_repo z99α.2.2)) z110.2, .gone, .obj true z11 z12 (.dat (T_tally_Tally_repo z99α.2.1)) z106.2, .gone, .obj true z6 z7 (.dat (T_tally_Tally_repo z99α.1)) z102.2, .vec (z99α.1) (T_deque_Cell_rep) z102.2.was.cells, .vec (z99α.2.1) (T_deque_Cell_rep) z106.2.was.cells, .vec (z99α.2.2) (T_deque_Cell_rep) z110.2.was.cells]) (by first | exact hB z99α S true true true e11 e23 e35 | (have q := hB z99α S true true true e11 e23 e35; simp only [cond_true, cond_false] at q; exact q)) ?_
          refine o_assign rfl rfl guard_none (look_d rfl rfl (pr hp 0 rfl rfl)) (fun _ => rfl) ?_
          apply h_endA (α := z99α) (z99α.1, z99α.2.1, z99α.2.2)
          · exact (.same (.same (.same (.same (.same (.same (.same (.same (.same (.same (.same (.same (.same (.same (.same (.same (.same (.same (.same (.same (.same (.same (.same (.same (.same (.same (.same (.same (.same (.same (.same (.same (.same (.same (.same (.same (.same (.same (.same .nil)))))))))))))))))))))))))))))))))))))))
          · exact rfl
          · exact rfl
          · exact rfl
          · exact hB (z99α.1, z99α.2.1, z99α.2.2) (fun k => S k || Nat.beq k 38) true true true (or_t e11) (or_t e23) (or_t e35)
        refine den_weak (H' := [.obj true z16 z17 (.dat (T_tally_Tally_repo z99α.2.2)) z110.2, .obj true z11 z12 (.dat (T_tally_Tally_repo z99α.2.1)) z106.2, .obj true z6 z7 (.dat (T_tally_Tally_repo z99α.1)) z102.2, .vec z99α.1 (T_deque_Cell_rep) z102.2.was.cells, .vec z99α.2.1 (T_deque_Cell_rep) z106.2.was.cells, .vec z99α.2.2 (T_deque_Cell_rep) z110.2.was.cells]) (sub_pick [1, 3, 5, 6, 7, 8] rfl rfl) ?_
        refine den_seq ?_
        refine den_region rfl ?_
        refine o_move rfl rfl guard_none (look_tmp rfl) (fun _ => rfl) ?_
        refine o_move rfl rfl guard_none (look_tmp rfl) (fun _ => rfl) ?_
        refine o_neq rfl rfl guard_none (look_tmp rfl) (look_tmp rfl) (fun _ => rfl) (fun _ => rfl) ?_
        refine o_move rfl rfl guard_none (look_tmp rfl) (fun _ => rfl) ?_
        refine o_move rfl rfl (guard_some rfl rfl rfl) (look_tmp rfl) (fun _ => rfl) ?_
        refine o_move rfl rfl (guard_some rfl rfl rfl) (look_tmp rfl) (fun _ => rfl) ?_
        refine o_lss rfl rfl (guard_some rfl rfl rfl) (look_tmp rfl) (look_tmp rfl) (fun h => h) (fun h => h) ?_
        refine o_pick rfl rfl guard_none (look_tmp rfl) look_bool (look_tmp rfl) (fun _ => rfl) (fun _ _ => rfl) (fun h1 h2 => pick_f ((fun _ => rfl) h1) h2) ?_
        refine o_end ?_
        refine den_cond (look_tmp rfl) ?_ ?_
        · refine den_seq ?_
          refine den_region rfl ?_
          refine o_assign rfl rfl guard_none look_bool (fun _ => rfl) ?_
          refine o_end ?_
          refine den_code_ret ?_
          refine dene_ret ?_
          refine dene_loopA (by simp) ?_
          refine dene_ret ?_
          refine dene_bothA (by simp) ?_
          refine dene_ret ?_
          exact dene_res (res1 rfl (rv_tmp rfl))
        · refine den_skip ?_
          refine den_blkend ?_
          refine den_region rfl ?_
          refine o_move rfl rfl guard_none (look_tmp rfl) (fun _ => rfl) ?_
          refine o_add rfl rfl guard_none (look_tmp rfl) (look_int rfl) (fun _ => rfl) (fun _ => rfl) ?_
          refine o_assign rfl rfl guard_none (look_tmp rfl) (fun _ => rfl) ?_
          refine o_end ?_
          refine den_nextA (z99α.2.2, z99α.2.1, z99α.1) ((Sub.trans (sub_pick [5, 0, 4, 1, 3, 2] rfl rfl) (sub_env (sube_cons rfl (sube_cons rfl (sube_cons rfl (sube_cons rfl (sube_cons rfl (sube_cons rfl (sube_nil))))))))))
      · refine den_code_exit ?_
        refine dene_out rfl ?_
        refine dene_loopA (by simp) ?_
        refine dene_to rfl ?_
        refine den_endlA (z98α.2.1, z98α.2.2) ((Sub.trans (sub_pick [2, 3, 4, 5] rfl rfl) (sub_env (sube_cons rfl (sube_cons rfl (sube_cons rfl (sube_nil)))))))
    refine den_seq ?_
    refine den_region rfl ?_
    refine o_move rfl rfl guard_none (look_tmp rfl) (fun _ => rfl) ?_
    refine o_weak (H' := [] ++ ([.vec z19α.2 (T_deque_Cell_rep) z19.2.was.cells, .obj true z6 z7 (.dat (T_tally_Tally_repo z19α.2)) z19.2] ++ [.vec z19α.1 (T_deque_Cell_rep) z19.1.was.cells, .obj true z11 z12 (.dat (T_tally_Tally_repo z19α.1)) z19.1])) (sub_pick [2, 3, 0, 1] rfl rfl) ?_
    refine o_callU rfl rfl rfl rfl rfl callable27 (looks_cons (look_tmp rfl) (fun _ => rfl) (looks_nil)) (.vec (.cons .nil)) (tally_Tally_Clone_ok _ _ _ z19.2) (fun _ _ => (wr_ol (fun _ => (wr_v (wr_c wr_n))) wr_n)) (fun z21α z20 => ?_)
    obtain ⟨⟨z22, z23⟩, z24⟩ := z21α
    rcases z20 with _ | z25
    · refine o_weak (H' := [.vec z19α.2 (T_deque_Cell_rep) z19.2.was.cells, .obj true z6 z7 (.dat (T_tally_Tally_repo z19α.2)) z19.2, .vec z19α.1 (T_deque_Cell_rep) z19.1.was.cells, .obj true z11 z12 (.dat (T_tally_Tally_repo z19α.1)) z19.1]) (sub_pick [0, 1, 2, 3] rfl rfl) ?_
      refine o_asnil ?_
      refine o_optn ?_
      refine o_assign rfl rfl guard_none (look_tmp rfl) (fun _ => rfl) ?_
      refine o_end ?_
      refine den_seq ?_
      refine den_seq ?_
      refine den_region rfl ?_
      refine o_assign rfl rfl guard_none (look_int rfl) (fun _ => rfl) ?_
      refine o_end ?_
      refine den_both (fun z26 => []) (fun z26 => []) ?_ (fun z26 => ?_)
      · refine den_block ?_
        refine den_loopA (A := (Value × Value)) (law17_TallyClones_L1b z3) (fun z44α z44 => [(17, ⟨Rep.int .i64, z44.1, true⟩), (3, ⟨(T_law17_Step_rep).slice, z3, true⟩), (9, ⟨Rep.addr, (z6, z7), true⟩), (10, ⟨Rep.addr, (z11, z12), true⟩), (16, ⟨Rep.nilp, (), true⟩)]) (fun z44α z44 => [.vec z44α.1 (T_deque_Cell_rep) z44.2.1.was.cells, .obj true z6 z7 (.dat (T_tally_Tally_repo z44α.1)) z44.2.1, .vec z44α.2 (T_deque_Cell_rep) z44.2.2.was.cells, .obj true z11 z12 (.dat (T_tally_Tally_repo z44α.2)) z44.2.2]) (0, z19.2, z19.1) (z19α.2, z19α.1) (fun z44α z44 => ?_) ((sub_env (sube_cons rfl (sube_cons rfl (sube_cons rfl (sube_cons rfl (sube_cons rfl (sube_nil))))))))
        refine den_seq ?_
        refine den_seq ?_
        refine den_region rfl ?_
        refine o_move rfl rfl guard_none (look_tmp rfl) (fun _ => rfl) ?_
        refine o_move rfl rfl guard_none (look_tmp rfl) (fun _ => rfl) ?_
        refine o_llen Try.underlying44 rfl rfl guard_none (look_tmp rfl) (fun _ => rfl) ?_
        refine o_lss rfl rfl guard_none (look_tmp rfl) (look_tmp rfl) (fun _ => rfl) (fun _ => rfl) ?_
        refine o_end ?_
        refine den_cond (look_tmp rfl) ?_ ?_
        · refine den_skip ?_
          refine den_seq ?_
          refine den_block ?_
          refine den_seq ?_
          refine den_open (fun z46 h_z46 => ?_)
          refine den_open (fun z47 h_z47 => ?_)
          refine den_open (fun z48 h_z48 => ?_)
          have hB : ∀ (z45α : Value) (S : Nat → Bool) (b12 : Bool), S 12 = b12 → (([(cond (S 12) (.gone) (.vec z44α.1 (T_deque_Cell_rep) z44.2.1.was.cells)), (cond (S 12) (.obj true z6 z7 (.dat (T_tally_Tally_repo z45α)) z48.2) (.obj true z6 z7 (.dat (T_tally_Tally_repo z44α.1)) z44.2.1)), .vec z44α.2 (T_deque_Cell_rep) z44.2.2.was.cells, .obj true z11 z12 (.dat (T_tally_Tally_repo z44α.2)) z44.2.2, (cond (S 12) (.vec (z45α) (T_deque_Cell_rep) z48.2.was.cells) (.gone))] : List Go.Eng.Item)) = ([(cond b12 (.gone) (.vec z44α.1 (T_deque_Cell_rep) z44.2.1.was.cells)), (cond b12 (.obj true z6 z7 (.dat (T_tally_Tally_repo z45α)) z48.2) (.obj true z6 z7 (.dat (T_tally_Tally_repo z44α.1)) z44.2.1)), .vec z44α.2 (T_deque_Cell_rep) z44.2.2.was.cells, .obj true z11 z12 (.dat (T_tally_Tally_repo z44α.2)) z44.2.2, (cond b12 (.vec (z45α) (T_deque_Cell_rep) z48.2.was.cells) (.gone))] : List Go.Eng.Item) := fun z45α S b12 h12 => by subst h12; rfl
          refine den_weak sub_gone ?_
          refine den_weak (sub_pick (H' := [.vec z44α.1 (T_deque_Cell_rep) z44.2.1.was.cells, .obj true z6 z7 (.dat (T_tally_Tally_repo z44α.1)) z44.2.1, .vec z44α.2 (T_deque_Cell_rep) z44.2.2.was.cells, .obj true z11 z12 (.dat (T_tally_Tally_repo z44α.2)) z44.2.2, .gone]) [1, 2, 3, 4, 0] rfl rfl) ?_
          refine den_drawA (A := Value) (H' := fun z45α => [.gone, .obj true z6 z7 (.dat (T_tally_Tally_repo z45α)) z48.2, .vec z44α.2 (T_deque_Cell_rep) z44.2.2.was.cells, .obj true z11 z12 (.dat (T_tally_Tally_repo z44α.2)) z44.2.2, .vec (z45α) (T_deque_Cell_rep) z48.2.was.cells]) (fun z45α => [(94, ⟨Rep.addr, (z6, z7), true⟩), (95, ⟨(T_law17_Step_rep).slice, z3, true⟩), (96, ⟨Rep.int .i64, z44.1, true⟩), (97, ⟨(T_law17_Step_rep).ptrTo, z46, true⟩), (98, ⟨(Rep.int .i64).ptrTo, z46.At, true⟩), (99, ⟨Rep.int .i64, z46.At, true⟩), (100, ⟨(T_law17_Step_rep).slice, z3, true⟩), (101, ⟨Rep.int .i64, z44.1, true⟩), (102, ⟨(T_law17_Step_rep).ptrTo, z47, true⟩), (103, ⟨(Rep.bool).ptrTo, z47.Is, true⟩), (104, ⟨Rep.bool, z47.Is, true⟩), (105, ⟨Rep.bool, !z47.Is, true⟩), (106, ⟨Rep.int .i64, z48.1, true⟩)]) (fun z45α S => [(cond (S 12) (.gone) (.vec z44α.1 (T_deque_Cell_rep) z44.2.1.was.cells)), (cond (S 12) (.obj true z6 z7 (.dat (T_tally_Tally_repo z45α)) z48.2) (.obj true z6 z7 (.dat (T_tally_Tally_repo z44α.1)) z44.2.1)), .vec z44α.2 (T_deque_Cell_rep) z44.2.2.was.cells, .obj true z11 z12 (.dat (T_tally_Tally_repo z44α.2)) z44.2.2, (cond (S 12) (.vec (z45α) (T_deque_Cell_rep) z48.2.was.cells) (.gone))]) (Value.slice none 0 0) mixed (fun _ => rfl) rfl rfl (fun z45α S hS => hB z45α S true (hS 12 (by decide))) ⟨?_, ?_, ?_, ?_, ?_, ?_, ?_, ?_, ?_, ?_, ?_, ?_, ?_, trivial⟩ (fun z45α => ?_)
          · intro z45α S hc hk hp
            have e12 : S 12 = false := (not_yet (j := 12) (q := 0) hc hk rfl rfl rfl rfl)
            refine eq_H (H' := [.vec z44α.1 (T_deque_Cell_rep) z44.2.1.was.cells, .obj true z6 z7 (.dat (T_tally_Tally_repo z44α.1)) z44.2.1, .vec z44α.2 (T_deque_Cell_rep) z44.2.2.was.cells, .obj true z11 z12 (.dat (T_tally_Tally_repo z44α.2)) z44.2.2, .gone]) (by first | exact hB z45α S false e12 | (have q := hB z45α S false e12; simp only [cond_true, cond_false] at q; exact q)) ?_
            refine o_move rfl rfl guard_none (look_o rfl rfl) (fun _ => rfl) ?_
            apply h_endA (α := z45α) z45α
            · exact (.same (.same (.same (.same (.same (.same (.same (.same (.same (.same (.same (.same (.same .nil)))))))))))))
            · exact rfl
            · exact rfl
            · exact rfl
            · exact hB z45α (fun k => S k || Nat.beq k 0) false (or_f e12 rfl)
          · intro z45α S hc hk hp
            have e12 : S 12 = false := (not_yet (j := 12) (q := 1) hc (not_yet (j := 5) (q := 0) hc (not_yet (j := 4) (q := 0) hc (not_yet (j := 3) (q := 0) hc hk rfl rfl rfl rfl) rfl rfl rfl rfl) rfl rfl rfl rfl) rfl rfl rfl rfl)
            refine eq_H (H' := [.vec z44α.1 (T_deque_Cell_rep) z44.2.1.was.cells, .obj true z6 z7 (.dat (T_tally_Tally_repo z44α.1)) z44.2.1, .vec z44α.2 (T_deque_Cell_rep) z44.2.2.was.cells, .obj true z11 z12 (.dat (T_tally_Tally_repo z44α.2)) z44.2.2, .gone]) (by first | exact hB z45α S false e12 | (have q := hB z45α S false e12; simp only [cond_true, cond_false] at q; exact q)) ?_
            refine o_move rfl rfl guard_none (look_o rfl rfl) (fun _ => rfl) ?_
            apply h_endA (α := z45α) z45α
            · exact (.same (.same (.same (.same (.same (.same (.same (.same (.same (.same (.same (.same (.same .nil)))))))))))))
            · exact rfl
            · exact rfl
            · exact rfl
            · exact hB z45α (fun k => S k || Nat.beq k 1) false (or_f e12 rfl)
          · intro z45α S hc hk hp
            have e12 : S 12 = false := (not_yet (j := 12) (q := 1) hc (not_yet (j := 5) (q := 0) hc (not_yet (j := 4) (q := 0) hc (not_yet (j := 3) (q := 1) hc hk rfl rfl rfl rfl) rfl rfl rfl rfl) rfl rfl rfl rfl) rfl rfl rfl rfl)
            refine eq_H (H' := [.vec z44α.1 (T_deque_Cell_rep) z44.2.1.was.cells, .obj true z6 z7 (.dat (T_tally_Tally_repo z44α.1)) z44.2.1, .vec z44α.2 (T_deque_Cell_rep) z44.2.2.was.cells, .obj true z11 z12 (.dat (T_tally_Tally_repo z44α.2)) z44.2.2, .gone]) (by first | exact hB z45α S false e12 | (have q := hB z45α S false e12; simp only [cond_true, cond_false] at q; exact q)) ?_
            refine o_move rfl rfl guard_none (look_o rfl rfl) (fun _ => rfl) ?_
            apply h_endA (α := z45α) z45α
            · exact (.same (.same (.same (.same (.same (.same (.same (.same (.same (.same (.same (.same (.same .nil)))))))))))))
            · exact rfl
            · exact rfl
            · exact rfl
            · exact hB z45α (fun k => S k || Nat.beq k 2) false (or_f e12 rfl)
          · intro z45α S hc hk hp
            have e12 : S 12 = false := (not_yet (j := 12) (q := 1) hc (not_yet (j := 5) (q := 0) hc (not_yet (j := 4) (q := 0) hc hk rfl rfl rfl rfl) rfl rfl rfl rfl) rfl rfl rfl rfl)
            refine eq_H (H' := [.vec z44α.1 (T_deque_Cell_rep) z44.2.1.was.cells, .obj true z6 z7 (.dat (T_tally_Tally_repo z44α.1)) z44.2.1, .vec z44α.2 (T_deque_Cell_rep) z44.2.2.was.cells, .obj true z11 z12 (.dat (T_tally_Tally_repo z44α.2)) z44.2.2, .gone]) (by first | exact hB z45α S false e12 | (have q := hB z45α S false e12; simp only [cond_true, cond_false] at q; exact q)) ?_
            refine o_from (bind_eqO h_z46) ?_
            refine o_iaddr Try.underlying44 type49 rfl rfl (look_d rfl rfl (pr hp 0 rfl rfl)) (look_d rfl rfl (pr hp 1 rfl rfl)) rfl rfl (o_eqO ?_)
            apply h_endA (α := z45α) z45α
            · exact (.same (.same (.same (.same (.same (.same (.same (.same (.same (.same (.same (.same (.same .nil)))))))))))))
            · exact rfl
            · exact rfl
            · exact rfl
            · exact hB z45α (fun k => S k || Nat.beq k 3) false (or_f e12 rfl)
          · intro z45α S hc hk hp
            have e12 : S 12 = false := (not_yet (j := 12) (q := 1) hc (not_yet (j := 5) (q := 0) hc hk rfl rfl rfl rfl) rfl rfl rfl rfl)
            refine eq_H (H' := [.vec z44α.1 (T_deque_Cell_rep) z44.2.1.was.cells, .obj true z6 z7 (.dat (T_tally_Tally_repo z44α.1)) z44.2.1, .vec z44α.2 (T_deque_Cell_rep) z44.2.2.was.cells, .obj true z11 z12 (.dat (T_tally_Tally_repo z44α.2)) z44.2.2, .gone]) (by first | exact hB z45α S false e12 | (have q := hB z45α S false e12; simp only [cond_true, cond_false] at q; exact q)) ?_
            refine o_fptr field49_0 type2 (by decide) T_law17_Step_foc0 rfl rfl guard_none (look_d rfl rfl (pr hp 0 rfl rfl)) (fun _ => rfl) ?_
            apply h_endA (α := z45α) z45α
            · exact (.same (.same (.same (.same (.same (.same (.same (.same (.same (.same (.same (.same (.same .nil)))))))))))))
            · exact rfl
            · exact rfl
            · exact rfl
            · exact hB z45α (fun k => S k || Nat.beq k 4) false (or_f e12 rfl)
          · intro z45α S hc hk hp
            have e12 : S 12 = false := (not_yet (j := 12) (q := 1) hc hk rfl rfl rfl rfl)
            refine eq_H (H' := [.vec z44α.1 (T_deque_Cell_rep) z44.2.1.was.cells, .obj true z6 z7 (.dat (T_tally_Tally_repo z44α.1)) z44.2.1, .vec z44α.2 (T_deque_Cell_rep) z44.2.2.was.cells, .obj true z11 z12 (.dat (T_tally_Tally_repo z44α.2)) z44.2.2, .gone]) (by first | exact hB z45α S false e12 | (have q := hB z45α S false e12; simp only [cond_true, cond_false] at q; exact q)) ?_
            refine o_load type2 rfl rfl guard_none (look_d rfl rfl (pr hp 0 rfl rfl)) (fun _ => rfl) ?_
            apply h_endA (α := z45α) z45α
            · exact (.same (.same (.same (.same (.same (.same (.same (.same (.same (.same (.same (.same (.same .nil)))))))))))))
            · exact rfl
            · exact rfl
            · exact rfl
            · exact hB z45α (fun k => S k || Nat.beq k 5) false (or_f e12 rfl)
          · intro z45α S hc hk hp
            have e12 : S 12 = false := (not_yet (j := 12) (q := 2) hc (not_yet (j := 11) (q := 0) hc (not_yet (j := 10) (q := 0) hc (not_yet (j := 9) (q := 0) hc (not_yet (j := 8) (q := 0) hc hk rfl rfl rfl rfl) rfl rfl rfl rfl) rfl rfl rfl rfl) rfl rfl rfl rfl) rfl rfl rfl rfl)
            refine eq_H (H' := [.vec z44α.1 (T_deque_Cell_rep) z44.2.1.was.cells, .obj true z6 z7 (.dat (T_tally_Tally_repo z44α.1)) z44.2.1, .vec z44α.2 (T_deque_Cell_rep) z44.2.2.was.cells, .obj true z11 z12 (.dat (T_tally_Tally_repo z44α.2)) z44.2.2, .gone]) (by first | exact hB z45α S false e12 | (have q := hB z45α S false e12; simp only [cond_true, cond_false] at q; exact q)) ?_
            refine o_move rfl rfl guard_none (look_o rfl rfl) (fun _ => rfl) ?_
            apply h_endA (α := z45α) z45α
            · exact (.same (.same (.same (.same (.same (.same (.same (.same (.same (.same (.same (.same (.same .nil)))))))))))))
            · exact rfl
            · exact rfl
            · exact rfl
            · exact hB z45α (fun k => S k || Nat.beq k 6) false (or_f e12 rfl)
          · intro z45α S hc hk hp
            have e12 : S 12 = false := (not_yet (j := 12) (q := 2) hc (not_yet (j := 11) (q := 0) hc (not_yet (j := 10) (q := 0) hc (not_yet (j := 9) (q := 0) hc (not_yet (j := 8) (q := 1) hc hk rfl rfl rfl rfl) rfl rfl rfl rfl) rfl rfl rfl rfl) rfl rfl rfl rfl) rfl rfl rfl rfl)
            refine eq_H (H' := [.vec z44α.1 (T_deque_Cell_rep) z44.2.1.was.cells, .obj true z6 z7 (.dat (T_tally_Tally_repo z44α.1)) z44.2.1, .vec z44α.2 (T_deque_Cell_rep) z44.2.2.was.cells, .obj true z11 z12 (.dat (T_tally_Tally_repo z44α.2)) z44.2.2, .gone]) (by first | exact hB z45α S false e12 | (have q := hB z45α S false e12; simp only [cond_true, cond_false] at q; exact q)) ?_
            refine o_move rfl rfl guard_none (look_o rfl rfl) (fun _ => rfl) ?_
            apply h_endA (α := z45α) z45α
            · exact (.same (.same (.same (.same (.same (.same (.same (.same (.same (.same (.same (.same (.same .nil)))))))))))))
            · exact rfl
            · exact rfl
            · exact rfl
            · exact hB z45α (fun k => S k || Nat.beq k 7) false (or_f e12 rfl)
          · intro z45α S hc hk hp
            have e12 : S 12 = false := (not_yet (j := 12) (q := 2) hc (not_yet (j := 11) (q := 0) hc (not_yet (j := 10) (q := 0) hc (not_yet (j := 9) (q := 0) hc hk rfl rfl rfl rfl) rfl rfl rfl rfl) rfl rfl rfl rfl) rfl rfl rfl rfl)
            refine eq_H (H' := [.vec z44α.1 (T_deque_Cell_rep) z44.2.1.was.cells, .obj true z6 z7 (.dat (T_tally_Tally_repo z44α.1)) z44.2.1, .vec z44α.2 (T_deque_Cell_rep) z44.2.2.was.cells, .obj true z11 z12 (.dat (T_tally_Tally_repo z44α.2)) z44.2.2, .gone]) (by first | exact hB z45α S false e12 | (have q := hB z45α S false e12; simp only [cond_true, cond_false] at q; exact q)) ?_
            refine o_from (bind_eqO h_z47) ?_
            refine o_iaddr Try.underlying44 type49 rfl rfl (look_d rfl rfl (pr hp 0 rfl rfl)) (look_d rfl rfl (pr hp 1 rfl rfl)) rfl rfl (o_eqO ?_)
            apply h_endA (α := z45α) z45α
            · exact (.same (.same (.same (.same (.same (.same (.same (.same (.same (.same (.same (.same (.same .nil)))))))))))))
            · exact rfl
            · exact rfl
            · exact rfl
            · exact hB z45α (fun k => S k || Nat.beq k 8) false (or_f e12 rfl)
          · intro z45α S hc hk hp
            have e12 : S 12 = false := (not_yet (j := 12) (q := 2) hc (not_yet (j := 11) (q := 0) hc (not_yet (j := 10) (q := 0) hc hk rfl rfl rfl rfl) rfl rfl rfl rfl) rfl rfl rfl rfl)
            refine eq_H (H' := [.vec z44α.1 (T_deque_Cell_rep) z44.2.1.was.cells, .obj true z6 z7 (.dat (T_tally_Tally_repo z44α.1)) z44.2.1, .vec z44α.2 (T_deque_Cell_rep) z44.2.2.was.cells, .obj true z11 z12 (.dat (T_tally_Tally_repo z44α.2)) z44.2.2, .gone]) (by first | exact hB z45α S false e12 | (have q := hB z45α S false e12; simp only [cond_true, cond_false] at q; exact q)) ?_
            refine o_fptr field49_1 type4 (by decide) T_law17_Step_foc1 rfl rfl guard_none (look_d rfl rfl (pr hp 0 rfl rfl)) (fun _ => rfl) ?_
            apply h_endA (α := z45α) z45α
            · exact (.same (.same (.same (.same (.same (.same (.same (.same (.same (.same (.same (.same (.same .nil)))))))))))))
            · exact rfl
            · exact rfl
            · exact rfl
            · exact hB z45α (fun k => S k || Nat.beq k 9) false (or_f e12 rfl)
          · intro z45α S hc hk hp
            have e12 : S 12 = false := (not_yet (j := 12) (q := 2) hc (not_yet (j := 11) (q := 0) hc hk rfl rfl rfl rfl) rfl rfl rfl rfl)
            refine eq_H (H' := [.vec z44α.1 (T_deque_Cell_rep) z44.2.1.was.cells, .obj true z6 z7 (.dat (T_tally_Tally_repo z44α.1)) z44.2.1, .vec z44α.2 (T_deque_Cell_rep) z44.2.2.was.cells, .obj true z11 z12 (.dat (T_tally_Tally_repo z44α.2)) z44.2.2, .gone]) (by first | exact hB z45α S false e12 | (have q := hB z45α S false e12; simp only [cond_true, cond_false] at q; exact q)) ?_
            refine o_load type4 rfl rfl guard_none (look_d rfl rfl (pr hp 0 rfl rfl)) (fun _ => rfl) ?_
            apply h_endA (α := z45α) z45α
            · exact (.same (.same (.same (.same (.same (.same (.same (.same (.same (.same (.same (.same (.same .nil)))))))))))))
            · exact rfl
            · exact rfl
            · exact rfl
            · exact hB z45α (fun k => S k || Nat.beq k 10) false (or_f e12 rfl)
          · intro z45α S hc hk hp
            have e12 : S 12 = false := (not_yet (j := 12) (q := 2) hc hk rfl rfl rfl rfl)
            refine eq_H (H' := [.vec z44α.1 (T_deque_Cell_rep) z44.2.1.was.cells, .obj true z6 z7 (.dat (T_tally_Tally_repo z44α.1)) z44.2.1, .vec z44α.2 (T_deque_Cell_rep) z44.2.2.was.cells, .obj true z11 z12 (.dat (T_tally_Tally_repo z44α.2)) z44.2.2, .gone]) (by first | exact hB z45α S false e12 | (have q := hB z45α S false e12; simp only [cond_true, cond_false] at q; exact q)) ?_
            refine o_not rfl rfl guard_none (look_d rfl rfl (pr hp 0 rfl rfl)) (fun _ => rfl) ?_
            apply h_endA (α := z45α) z45α
            · exact (.same (.same (.same (.same (.same (.same (.same (.same (.same (.same (.same (.same (.same .nil)))))))))))))
            · exact rfl
            · exact rfl
            · exact rfl
            · exact hB z45α (fun k => S k || Nat.beq k 11) false (or_f e12 rfl)
          · intro z45α S hc hk hp
            refine eq_H (H' := [.vec z44α.1 (T_deque_Cell_rep) z44.2.1.was.cells, .obj true z6 z7 (.dat (T_tally_Tally_repo z44α.1)) z44.2.1, .vec z44α.2 (T_deque_Cell_rep) z44.2.2.was.cells, .obj true z11 z12 (.dat (T_tally_Tally_repo z44α.2)) z44.2.2, .gone]) (by first | exact hB z45α S false hk | (have q := hB z45α S false hk; simp only [cond_true, cond_false] at q; exact q)) ?_
            refine o_from (bind_eqO h_z48) ?_
            refine o_weak (H' := [.vec z44α.1 (T_deque_Cell_rep) z44.2.1.was.cells, .obj true z6 z7 (.dat (T_tally_Tally_repo z44α.1)) z44.2.1] ++ ([] ++ [.vec z44α.2 (T_deque_Cell_rep) z44.2.2.was.cells, .obj true z11 z12 (.dat (T_tally_Tally_repo z44α.2)) z44.2.2, .gone])) (sub_pick [0, 1, 2, 3, 4] rfl rfl) ?_
            refine o_callU rfl rfl rfl rfl rfl callable23 (looks_cons (look_d rfl rfl (pr hp 0 rfl rfl)) (fun _ => rfl) (looks_cons (look_d rfl rfl (pr hp 1 rfl rfl)) (fun _ => rfl) (looks_cons (look_d rfl rfl (pr hp 2 rfl rfl)) (fun _ => rfl) (looks_nil)))) .nil (tally_Tally_Step_ok _ _ _ z44.2.1 z46.At (!z47.Is)) (fun _ _ => (wr_v (wr_c wr_n))) (fun z49α => o_eqOH ?_)
            refine o_weak (H' := [.vec z49α (T_deque_Cell_rep) z48.2.was.cells, .obj true z6 z7 (.dat (T_tally_Tally_repo z49α)) z48.2, .vec z44α.2 (T_deque_Cell_rep) z44.2.2.was.cells, .obj true z11 z12 (.dat (T_tally_Tally_repo z44α.2)) z44.2.2, .gone]) (sub_pick [0, 1, 2, 3, 4] rfl rfl) ?_
            refine o_weak sub_gone ?_
            refine o_weak (H' := [.gone, .obj true z6 z7 (.dat (T_tally_Tally_repo z49α)) z48.2, .vec z44α.2 (T_deque_Cell_rep) z44.2.2.was.cells, .obj true z11 z12 (.dat (T_tally_Tally_repo z44α.2)) z44.2.2, .vec z49α (T_deque_Cell_rep) z48.2.was.cells]) (sub_pick [0, 2, 3, 4, 1] rfl rfl) ?_
            apply h_endA (α := z45α) z49α
            · exact (.same (.same (.same (.same (.same (.same (.same (.same (.same (.same (.same (.same (.same .nil)))))))))))))
            · exact rfl
            · exact rfl
            · exact rfl
            · exact hB z49α (fun k => S k || Nat.beq k 12) true (or_i rfl)
          refine den_weak (H' := [.obj true z6 z7 (.dat (T_tally_Tally_repo z45α)) z48.2, .vec z44α.2 (T_deque_Cell_rep) z44.2.2.was.cells, .obj true z11 z12 (.dat (T_tally_Tally_repo z44α.2)) z44.2.2, .vec z45α (T_deque_Cell_rep) z48.2.was.cells]) (sub_pick [1, 2, 3, 4] rfl rfl) ?_
          refine den_seq ?_
          refine den_open (fun z51 h_z51 => ?_)
          refine den_open (fun z52 h_z52 => ?_)
          refine den_open (fun z53 h_z53 => ?_)
          refine den_open (fun z54 h_z54 => ?_)
          refine den_open (fun z55 h_z55 => ?_)
          refine den_open (fun z56 h_z56 => ?_)
          have hB : ∀ (z50α : Value) (S : Nat → Bool) (b23 : Bool), S 23 = b23 → (([.obj true z6 z7 (.dat (T_tally_Tally_repo z45α)) z48.2, (cond (S 23) (.gone) (.vec z44α.2 (T_deque_Cell_rep) z44.2.2.was.cells)), (cond (S 23) (.obj true z11 z12 (.dat (T_tally_Tally_repo z50α)) z56.2) (.obj true z11 z12 (.dat (T_tally_Tally_repo z44α.2)) z44.2.2)), .vec z45α (T_deque_Cell_rep) z48.2.was.cells, (cond (S 23) (.vec (z50α) (T_deque_Cell_rep) z56.2.was.cells) (.gone))] : List Go.Eng.Item)) = ([.obj true z6 z7 (.dat (T_tally_Tally_repo z45α)) z48.2, (cond b23 (.gone) (.vec z44α.2 (T_deque_Cell_rep) z44.2.2.was.cells)), (cond b23 (.obj true z11 z12 (.dat (T_tally_Tally_repo z50α)) z56.2) (.obj true z11 z12 (.dat (T_tally_Tally_repo z44α.2)) z44.2.2)), .vec z45α (T_deque_Cell_rep) z48.2.was.cells, (cond b23 (.vec (z50α) (T_deque_Cell_rep) z56.2.was.cells) (.gone))] : List Go.Eng.Item) := fun z50α S b23 h23 => by subst h23; rfl
          refine den_weak sub_gone ?_
          refine den_weak (sub_pick (H' := [.obj true z6 z7 (.dat (T_tally_Tally_repo z45α)) z48.2, .vec z44α.2 (T_deque_Cell_rep) z44.2.2.was.cells, .obj true z11 z12 (.dat (T_tally_Tally_repo z44α.2)) z44.2.2, .vec z45α (T_deque_Cell_rep) z48.2.was.cells, .gone]) [1, 2, 3, 4, 0] rfl rfl) ?_
          refine den_drawA (A := Value) (H' := fun z50α => [.obj true z6 z7 (.dat (T_tally_Tally_repo z45α)) z48.2, .gone, .obj true z11 z12 (.dat (T_tally_Tally_repo z50α)) z56.2, .vec z45α (T_deque_Cell_rep) z48.2.was.cells, .vec (z50α) (T_deque_Cell_rep) z56.2.was.cells]) (fun z50α => [(107, ⟨Rep.nilp, (), true⟩), (108, ⟨(T_law17_Step_rep).slice, z3, true⟩), (109, ⟨Rep.int .i64, z44.1, true⟩), (110, ⟨(T_law17_Step_rep).ptrTo, z51, true⟩), (111, ⟨(Rep.int .i64).ptrTo, z51.At, true⟩), (112, ⟨Rep.int .i64, z51.At, true⟩), (113, ⟨(T_law17_Step_rep).slice, z3, true⟩), (114, ⟨Rep.int .i64, z44.1, true⟩), (115, ⟨(T_law17_Step_rep).ptrTo, z52, true⟩), (116, ⟨(Rep.bool).ptrTo, z52.Is, true⟩), (117, ⟨Rep.bool, z52.Is, true⟩), (118, ⟨Rep.int .i64, z53, true⟩), (119, ⟨Rep.addr, (z11, z12), true⟩), (120, ⟨(T_law17_Step_rep).slice, z3, true⟩), (121, ⟨Rep.int .i64, z44.1, true⟩), (122, ⟨(T_law17_Step_rep).ptrTo, z54, true⟩), (123, ⟨(Rep.int .i64).ptrTo, z54.At, true⟩), (124, ⟨Rep.int .i64, z54.At, true⟩), (125, ⟨(T_law17_Step_rep).slice, z3, true⟩), (126, ⟨Rep.int .i64, z44.1, true⟩), (127, ⟨(T_law17_Step_rep).ptrTo, z55, true⟩), (128, ⟨(Rep.bool).ptrTo, z55.Is, true⟩), (129, ⟨Rep.bool, z55.Is, true⟩), (130, ⟨Rep.int .i64, z56.1, true⟩), (18, ⟨Rep.int .i64, z53, true⟩), (19, ⟨Rep.int .i64, z56.1, true⟩)]) (fun z50α S => [.obj true z6 z7 (.dat (T_tally_Tally_repo z45α)) z48.2, (cond (S 23) (.gone) (.vec z44α.2 (T_deque_Cell_rep) z44.2.2.was.cells)), (cond (S 23) (.obj true z11 z12 (.dat (T_tally_Tally_repo z50α)) z56.2) (.obj true z11 z12 (.dat (T_tally_Tally_repo z44α.2)) z44.2.2)), .vec z45α (T_deque_Cell_rep) z48.2.was.cells, (cond (S 23) (.vec (z50α) (T_deque_Cell_rep) z56.2.was.cells) (.gone))]) (Value.slice none 0 0) mixed (fun _ => rfl) rfl rfl (fun z50α S hS => hB z50α S true (hS 23 (by decide))) ⟨?_, ?_, ?_, ?_, ?_, ?_, ?_, ?_, ?_, ?_, ?_, ?_, ?_, ?_, ?_, ?_, ?_, ?_, ?_, ?_, ?_, ?_, ?_, ?_, ?_, ?_, trivial⟩ (fun z50α => ?_)
          · intro z50α S hc hk hp
            have e23 : S 23 = false := (not_yet (j := 23) (q := 3) hc (not_yet (j := 11) (q := 0) hc hk rfl rfl rfl rfl) rfl rfl rfl rfl)
            refine eq_H (H' := [.obj true z6 z7 (.dat (T_tally_Tally_repo z45α)) z48.2, .vec z44α.2 (T_deque_Cell_rep) z44.2.2.was.cells, .obj true z11 z12 (.dat (T_tally_Tally_repo z44α.2)) z44.2.2, .vec z45α (T_deque_Cell_rep) z48.2.was.cells, .gone]) (by first | exact hB z50α S false e23 | (have q := hB z50α S false e23; simp only [cond_true, cond_false] at q; exact q)) ?_
            refine o_move rfl rfl guard_none (look_o rfl rfl) (fun _ => rfl) ?_
            apply h_endA (α := z50α) z50α
            · exact (.same (.same (.same (.same (.same (.same (.same (.same (.same (.same (.same (.same (.same (.same (.same (.same (.same (.same (.same (.same (.same (.same (.same (.same (.same (.same .nil))))))))))))))))))))))))))
            · exact rfl
            · exact rfl
            · exact rfl
            · exact hB z50α (fun k => S k || Nat.beq k 0) false (or_f e23 rfl)
          · intro z50α S hc hk hp
            have e23 : S 23 = false := (not_yet (j := 23) (q := 3) hc (not_yet (j := 11) (q := 1) hc (not_yet (j := 5) (q := 0) hc (not_yet (j := 4) (q := 0) hc (not_yet (j := 3) (q := 0) hc hk rfl rfl rfl rfl) rfl rfl rfl rfl) rfl rfl rfl rfl) rfl rfl rfl rfl) rfl rfl rfl rfl)
            refine eq_H (H' := [.obj true z6 z7 (.dat (T_tally_Tally_repo z45α)) z48.2, .vec z44α.2 (T_deque_Cell_rep) z44.2.2.was.cells, .obj true z11 z12 (.dat (T_tally_Tally_repo z44α.2)) z44.2.2, .vec z45α (T_deque_Cell_rep) z48.2.was.cells, .gone]) (by first | exact hB z50α S false e23 | (have q := hB z50α S false e23; simp only [cond_true, cond_false] at q; exact q)) ?_
            refine o_move rfl rfl guard_none (look_o rfl rfl) (fun _ => rfl) ?_
            apply h_endA (α := z50α) z50α
            · exact (.same (.same (.same (.same (.same (.same (.same (.same (.same (.same (.same (.same (.same (.same (.same (.same (.same (.same (.same (.same (.same (.same (.same (.same (.same (.same .nil))))))))))))))))))))))))))
            · exact rfl
            · exact rfl
            · exact rfl
            · exact hB z50α (fun k => S k || Nat.beq k 1) false (or_f e23 rfl)
          · intro z50α S hc hk hp
            have e23 : S 23 = false := (not_yet (j := 23) (q := 3) hc (not_yet (j := 11) (q := 1) hc (not_yet (j := 5) (q := 0) hc (not_yet (j := 4) (q := 0) hc (not_yet (j := 3) (q := 1) hc hk rfl rfl rfl rfl) rfl rfl rfl rfl) rfl rfl rfl rfl) rfl rfl rfl rfl) rfl rfl rfl rfl)
            refine eq_H (H' := [.obj true z6 z7 (.dat (T_tally_Tally_repo z45α)) z48.2, .vec z44α.2 (T_deque_Cell_rep) z44.2.2.was.cells, .obj true z11 z12 (.dat (T_tally_Tally_repo z44α.2)) z44.2.2, .vec z45α (T_deque_Cell_rep) z48.2.was.cells, .gone]) (by first | exact hB z50α S false e23 | (have q := hB z50α S false e23; simp only [cond_true, cond_false] at q; exact q)) ?_
            refine o_move rfl rfl guard_none (look_o rfl rfl) (fun _ => rfl) ?_
            apply h_endA (α := z50α) z50α
            · exact (.same (.same (.same (.same (.same (.same (.same (.same (.same (.same (.same (.same (.same (.same (.same (.same (.same (.same (.same (.same (.same (.same (.same (.same (.same (.same .nil))))))))))))))))))))))))))
            · exact rfl
            · exact rfl
            · exact rfl
            · exact hB z50α (fun k => S k || Nat.beq k 2) false (or_f e23 rfl)
          · intro z50α S hc hk hp
            have e23 : S 23 = false := (not_yet (j := 23) (q := 3) hc (not_yet (j := 11) (q := 1) hc (not_yet (j := 5) (q := 0) hc (not_yet (j := 4) (q := 0) hc hk rfl rfl rfl rfl) rfl rfl rfl rfl) rfl rfl rfl rfl) rfl rfl rfl rfl)
            refine eq_H (H' := [.obj true z6 z7 (.dat (T_tally_Tally_repo z45α)) z48.2, .vec z44α.2 (T_deque_Cell_rep) z44.2.2.was.cells, .obj true z11 z12 (.dat (T_tally_Tally_repo z44α.2)) z44.2.2, .vec z45α (T_deque_Cell_rep) z48.2.was.cells, .gone]) (by first | exact hB z50α S false e23 | (have q := hB z50α S false e23; simp only [cond_true, cond_false] at q; exact q)) ?_
            refine o_from (bind_eqO h_z51) ?_
            refine o_iaddr Try.underlying44 type49 rfl rfl (look_d rfl rfl (pr hp 0 rfl rfl)) (look_d rfl rfl (pr hp 1 rfl rfl)) rfl rfl (o_eqO ?_)
            apply h_endA (α := z50α) z50α
            · exact (.same (.same (.same (.same (.same (.same (.same (.same (.same (.same (.same (.same (.same (.same (.same (.same (.same (.same (.same (.same (.same (.same (.same (.same (.same (.same .nil))))))))))))))))))))))))))
            · exact rfl
            · exact rfl
            · exact rfl
            · exact hB z50α (fun k => S k || Nat.beq k 3) false (or_f e23 rfl)
          · intro z50α S hc hk hp
            have e23 : S 23 = false := (not_yet (j := 23) (q := 3) hc (not_yet (j := 11) (q := 1) hc (not_yet (j := 5) (q := 0) hc hk rfl rfl rfl rfl) rfl rfl rfl rfl) rfl rfl rfl rfl)
            refine eq_H (H' := [.obj true z6 z7 (.dat (T_tally_Tally_repo z45α)) z48.2, .vec z44α.2 (T_deque_Cell_rep) z44.2.2.was.cells, .obj true z11 z12 (.dat (T_tally_Tally_repo z44α.2)) z44.2.2, .vec z45α (T_deque_Cell_rep) z48.2.was.cells, .gone]) (by first | exact hB z50α S false e23 | (have q := hB z50α S false e23; simp only [cond_true, cond_false] at q; exact q)) ?_
            refine o_fptr field49_0 type2 (by decide) T_law17_Step_foc0 rfl rfl guard_none (look_d rfl rfl (pr hp 0 rfl rfl)) (fun _ => rfl) ?_
            apply h_endA (α := z50α) z50α
            · exact (.same (.same (.same (.same (.same (.same (.same (.same (.same (.same (.same (.same (.same (.same (.same (.same (.same (.same (.same (.same (.same (.same (.same (.same (.same (.same .nil))))))))))))))))))))))))))
            · exact rfl
            · exact rfl
            · exact rfl
            · exact hB z50α (fun k => S k || Nat.beq k 4) false (or_f e23 rfl)
          · intro z50α S hc hk hp
            have e23 : S 23 = false := (not_yet (j := 23) (q := 3) hc (not_yet (j := 11) (q := 1) hc hk rfl rfl rfl rfl) rfl rfl rfl rfl)
            refine eq_H (H' := [.obj true z6 z7 (.dat (T_tally_Tally_repo z45α)) z48.2, .vec z44α.2 (T_deque_Cell_rep) z44.2.2.was.cells, .obj true z11 z12 (.dat (T_tally_Tally_repo z44α.2)) z44.2.2, .vec z45α (T_deque_Cell_rep) z48.2.was.cells, .gone]) (by first | exact hB z50α S false e23 | (have q := hB z50α S false e23; simp only [cond_true, cond_false] at q; exact q)) ?_
            refine o_load type2 rfl rfl guard_none (look_d rfl rfl (pr hp 0 rfl rfl)) (fun _ => rfl) ?_
            apply h_endA (α := z50α) z50α
            · exact (.same (.same (.same (.same (.same (.same (.same (.same (.same (.same (.same (.same (.same (.same (.same (.same (.same (.same (.same (.same (.same (.same (.same (.same (.same (.same .nil))))))))))))))))))))))))))
            · exact rfl
            · exact rfl
            · exact rfl
            · exact hB z50α (fun k => S k || Nat.beq k 5) false (or_f e23 rfl)
          · intro z50α S hc hk hp
            have e23 : S 23 = false := (not_yet (j := 23) (q := 3) hc (not_yet (j := 11) (q := 2) hc (not_yet (j := 10) (q := 0) hc (not_yet (j := 9) (q := 0) hc (not_yet (j := 8) (q := 0) hc hk rfl rfl rfl rfl) rfl rfl rfl rfl) rfl rfl rfl rfl) rfl rfl rfl rfl) rfl rfl rfl rfl)
            refine eq_H (H' := [.obj true z6 z7 (.dat (T_tally_Tally_repo z45α)) z48.2, .vec z44α.2 (T_deque_Cell_rep) z44.2.2.was.cells, .obj true z11 z12 (.dat (T_tally_Tally_repo z44α.2)) z44.2.2, .vec z45α (T_deque_Cell_rep) z48.2.was.cells, .gone]) (by first | exact hB z50α S false e23 | (have q := hB z50α S false e23; simp only [cond_true, cond_false] at q; exact q)) ?_
            refine o_move rfl rfl guard_none (look_o rfl rfl) (fun _ => rfl) ?_
            apply h_endA (α := z50α) z50α
            · exact (.same (.same (.same (.same (.same (.same (.same (.same (.same (.same (.same (.same (.same (.same (.same (.same (.same (.same (.same (.same (.same (.same (.same (.same (.same (.same .nil))))))))))))))))))))))))))
            · exact rfl
            · exact rfl
            · exact rfl
            · exact hB z50α (fun k => S k || Nat.beq k 6) false (or_f e23 rfl)
          · intro z50α S hc hk hp
            have e23 : S 23 = false := (not_yet (j := 23) (q := 3) hc (not_yet (j := 11) (q := 2) hc (not_yet (j := 10) (q := 0) hc (not_yet (j := 9) (q := 0) hc (not_yet (j := 8) (q := 1) hc hk rfl rfl rfl rfl) rfl rfl rfl rfl) rfl rfl rfl rfl) rfl rfl rfl rfl) rfl rfl rfl rfl)
            refine eq_H (H' := [.obj true z6 z7 (.dat (T_tally_Tally_repo z45α)) z48.2, .vec z44α.2 (T_deque_Cell_rep) z44.2.2.was.cells, .obj true z11 z12 (.dat (T_tally_Tally_repo z44α.2)) z44.2.2, .vec z45α (T_deque_Cell_rep) z48.2.was.cells, .gone]) (by first | exact hB z50α S false e23 | (have q := hB z50α S false e23; simp only [cond_true, cond_false] at q; exact q)) ?_
            refine o_move rfl rfl guard_none (look_o rfl rfl) (fun _ => rfl) ?_
            apply h_endA (α := z50α) z50α
            · exact (.same (.same (.same (.same (.same (.same (.same (.same (.same (.same (.same (.same (.same (.same (.same (.same (.same (.same (.same (.same (.same (.same (.same (.same (.same (.same .nil))))))))))))))))))))))))))
            · exact rfl
            · exact rfl
            · exact rfl
            · exact hB z50α (fun k => S k || Nat.beq k 7) false (or_f e23 rfl)
          · intro z50α S hc hk hp
            have e23 : S 23 = false := (not_yet (j := 23) (q := 3) hc (not_yet (j := 11) (q := 2) hc (not_yet (j := 10) (q := 0) hc (not_yet (j := 9) (q := 0) hc hk rfl rfl rfl rfl) rfl rfl rfl rfl) rfl rfl rfl rfl) rfl rfl rfl rfl)
            refine eq_H (H' := [.obj true z6 z7 (.dat (T_tally_Tally_repo z45α)) z48.2, .vec z44α.2 (T_deque_Cell_rep) z44.2.2.was.cells, .obj true z11 z12 (.dat (T_tally_Tally_repo z44α.2)) z44.2.2, .vec z45α (T_deque_Cell_rep) z48.2.was.cells, .gone]) (by first | exact hB z50α S false e23 | (have q := hB z50α S false e23; simp only [cond_true, cond_false] at q; exact q)) ?_
            refine o_from (bind_eqO h_z52) ?_
            refine o_iaddr Try.underlying44 type49 rfl rfl (look_d rfl rfl (pr hp 0 rfl rfl)) (look_d rfl rfl (pr hp 1 rfl rfl)) rfl rfl (o_eqO ?_)
            apply h_endA (α := z50α) z50α
            · exact (.same (.same (.same (.same (.same (.same (.same (.same (.same (.same (.same (.same (.same (.same (.same (.same (.same (.same (.same (.same (.same (.same (.same (.same (.same (.same .nil))))))))))))))))))))))))))
            · exact rfl
            · exact rfl
            · exact rfl
            · exact hB z50α (fun k => S k || Nat.beq k 8) false (or_f e23 rfl)
          · intro z50α S hc hk hp
            have e23 : S 23 = false := (not_yet (j := 23) (q := 3) hc (not_yet (j := 11) (q := 2) hc (not_yet (j := 10) (q := 0) hc hk rfl rfl rfl rfl) rfl rfl rfl rfl) rfl rfl rfl rfl)
            refine eq_H (H' := [.obj true z6 z7 (.dat (T_tally_Tally_repo z45α)) z48.2, .vec z44α.2 (T_deque_Cell_rep) z44.2.2.was.cells, .obj true z11 z12 (.dat (T_tally_Tally_repo z44α.2)) z44.2.2, .vec z45α (T_deque_Cell_rep) z48.2.was.cells, .gone]) (by first | exact hB z50α S false e23 | (have q := hB z50α S false e23; simp only [cond_true, cond_false] at q; exact q)) ?_
            refine o_fptr field49_1 type4 (by decide) T_law17_Step_foc1 rfl rfl guard_none (look_d rfl rfl (pr hp 0 rfl rfl)) (fun _ => rfl) ?_
            apply h_endA (α := z50α) z50α
            · exact (.same (.same (.same (.same (.same (.same (.same (.same (.same (.same (.same (.same (.same (.same (.same (.same (.same (.same (.same (.same (.same (.same (.same (.same (.same (.same .nil))))))))))))))))))))))))))
            · exact rfl
            · exact rfl
            · exact rfl
            · exact hB z50α (fun k => S k || Nat.beq k 9) false (or_f e23 rfl)
          · intro z50α S hc hk hp
            have e23 : S 23 = false := (not_yet (j := 23) (q := 3) hc (not_yet (j := 11) (q := 2) hc hk rfl rfl rfl rfl) rfl rfl rfl rfl)
            refine eq_H (H' := [.obj true z6 z7 (.dat (T_tally_Tally_repo z45α)) z48.2, .vec z44α.2 (T_deque_Cell_rep) z44.2.2.was.cells, .obj true z11 z12 (.dat (T_tally_Tally_repo z44α.2)) z44.2.2, .vec z45α (T_deque_Cell_rep) z48.2.was.cells, .gone]) (by first | exact hB z50α S false e23 | (have q := hB z50α S false e23; simp only [cond_true, cond_false] at q; exact q)) ?_
            refine o_load type4 rfl rfl guard_none (look_d rfl rfl (pr hp 0 rfl rfl)) (fun _ => rfl) ?_
            apply h_endA (α := z50α) z50α
            · exact (.same (.same (.same (.same (.same (.same (.same (.same (.same (.same (.same (.same (.same (.same (.same (.same (.same (.same (.same (.same (.same (.same (.same (.same (.same (.same .nil))))))))))))))))))))))))))
            · exact rfl
            · exact rfl
            · exact rfl
            · exact hB z50α (fun k => S k || Nat.beq k 10) false (or_f e23 rfl)
          · intro z50α S hc hk hp
            have e23 : S 23 = false := (not_yet (j := 23) (q := 3) hc hk rfl rfl rfl rfl)
            refine eq_H (H' := [.obj true z6 z7 (.dat (T_tally_Tally_repo z45α)) z48.2, .vec z44α.2 (T_deque_Cell_rep) z44.2.2.was.cells, .obj true z11 z12 (.dat (T_tally_Tally_repo z44α.2)) z44.2.2, .vec z45α (T_deque_Cell_rep) z48.2.was.cells, .gone]) (by first | exact hB z50α S false e23 | (have q := hB z50α S false e23; simp only [cond_true, cond_false] at q; exact q)) ?_
            refine o_from (bind_eqO h_z53) ?_
            refine o_call rfl rfl rfl callable23 (looks_cons (look_d rfl rfl (pr hp 0 rfl rfl)) (fun _ => rfl) (looks_cons (look_d rfl rfl (pr hp 1 rfl rfl)) (fun _ => rfl) (looks_cons (look_d rfl rfl (pr hp 2 rfl rfl)) (fun _ => rfl) (looks_nil)))) (tally_Tally_Step_n0_ok _ _) (o_eqO ?_)
            apply h_endA (α := z50α) z50α
            · exact (.same (.same (.same (.same (.same (.same (.same (.same (.same (.same (.same (.same (.same (.same (.same (.same (.same (.same (.same (.same (.same (.same (.same (.same (.same (.same .nil))))))))))))))))))))))))))
            · exact rfl
            · exact rfl
            · exact rfl
            · exact hB z50α (fun k => S k || Nat.beq k 11) false (or_f e23 rfl)
          · intro z50α S hc hk hp
            have e23 : S 23 = false := (not_yet (j := 23) (q := 0) hc hk rfl rfl rfl rfl)
            refine eq_H (H' := [.obj true z6 z7 (.dat (T_tally_Tally_repo z45α)) z48.2, .vec z44α.2 (T_deque_Cell_rep) z44.2.2.was.cells, .obj true z11 z12 (.dat (T_tally_Tally_repo z44α.2)) z44.2.2, .vec z45α (T_deque_Cell_rep) z48.2.was.cells, .gone]) (by first | exact hB z50α S false e23 | (have q := hB z50α S false e23; simp only [cond_true, cond_false] at q; exact q)) ?_
            refine o_move rfl rfl guard_none (look_o rfl rfl) (fun _ => rfl) ?_
            apply h_endA (α := z50α) z50α
            · exact (.same (.same (.same (.same (.same (.same (.same (.same (.same (.same (.same (.same (.same (.same (.same (.same (.same (.same (.same (.same (.same (.same (.same (.same (.same (.same .nil))))))))))))))))))))))))))
            · exact rfl
            · exact rfl
            · exact rfl
            · exact hB z50α (fun k => S k || Nat.beq k 12) false (or_f e23 rfl)
          · intro z50α S hc hk hp
            have e23 : S 23 = false := (not_yet (j := 23) (q := 1) hc (not_yet (j := 17) (q := 0) hc (not_yet (j := 16) (q := 0) hc (not_yet (j := 15) (q := 0) hc hk rfl rfl rfl rfl) rfl rfl rfl rfl) rfl rfl rfl rfl) rfl rfl rfl rfl)
            refine eq_H (H' := [.obj true z6 z7 (.dat (T_tally_Tally_repo z45α)) z48.2, .vec z44α.2 (T_deque_Cell_rep) z44.2.2.was.cells, .obj true z11 z12 (.dat (T_tally_Tally_repo z44α.2)) z44.2.2, .vec z45α (T_deque_Cell_rep) z48.2.was.cells, .gone]) (by first | exact hB z50α S false e23 | (have q := hB z50α S false e23; simp only [cond_true, cond_false] at q; exact q)) ?_
            refine o_move rfl rfl guard_none (look_o rfl rfl) (fun _ => rfl) ?_
            apply h_endA (α := z50α) z50α
            · exact (.same (.same (.same (.same (.same (.same (.same (.same (.same (.same (.same (.same (.same (.same (.same (.same (.same (.same (.same (.same (.same (.same (.same (.same (.same (.same .nil))))))))))))))))))))))))))
            · exact rfl
            · exact rfl
            · exact rfl
            · exact hB z50α (fun k => S k || Nat.beq k 13) false (or_f e23 rfl)
          · intro z50α S hc hk hp
            have e23 : S 23 = false := (not_yet (j := 23) (q := 1) hc (not_yet (j := 17) (q := 0) hc (not_yet (j := 16) (q := 0) hc (not_yet (j := 15) (q := 1) hc hk rfl rfl rfl rfl) rfl rfl rfl rfl) rfl rfl rfl rfl) rfl rfl rfl rfl)
            refine eq_H (H' := [.obj true z6 z7 (.dat (T_tally_Tally_repo z45α)) z48.2, .vec z44α.2 (T_deque_Cell_rep) z44.2.2.was.cells, .obj true z11 z12 (.dat (T_tally_Tally_repo z44α.2)) z44.2.2, .vec z45α (T_deque_Cell_rep) z48.2.was.cells, .gone]) (by first | exact hB z50α S false e23 | (have q := hB z50α S false e23; simp only [cond_true, cond_false] at q; exact q)) ?_
            refine o_move rfl rfl guard_none (look_o rfl rfl) (fun _ => rfl) ?_
            apply h_endA (α := z50α) z50α
            · exact (.same (.same (.same (.same (.same (.same (.same (.same (.same (.same (.same (.same (.same (.same (.same (.same (.same (.same (.same (.same (.same (.same (.same (.same (.same (.same .nil))))))))))))))))))))))))))
            · exact rfl
            · exact rfl
            · exact rfl
            · exact hB z50α (fun k => S k || Nat.beq k 14) false (or_f e23 rfl)
          · intro z50α S hc hk hp
            have e23 : S 23 = false := (not_yet (j := 23) (q := 1) hc (not_yet (j := 17) (q := 0) hc (not_yet (j := 16) (q := 0) hc hk rfl rfl rfl rfl) rfl rfl rfl rfl) rfl rfl rfl rfl)
            refine eq_H (H' := [.obj true z6 z7 (.dat (T_tally_Tally_repo z45α)) z48.2, .vec z44α.2 (T_deque_Cell_rep) z44.2.2.was.cells, .obj true z11 z12 (.dat (T_tally_Tally_repo z44α.2)) z44.2.2, .vec z45α (T_deque_Cell_rep) z48.2.was.cells, .gone]) (by first | exact hB z50α S false e23 | (have q := hB z50α S false e23; simp only [cond_true, cond_false] at q; exact q)) ?_
            refine o_from (bind_eqO h_z54) ?_
            refine o_iaddr Try.underlying44 type49 rfl rfl (look_d rfl rfl (pr hp 0 rfl rfl)) (look_d rfl rfl (pr hp 1 rfl rfl)) rfl rfl (o_eqO ?_)
            apply h_endA (α := z50α) z50α
            · exact (.same (.same (.same (.same (.same (.same (.same (.same (.same (.same (.same (.same (.same (.same (.same (.same (.same (.same (.same (.same (.same (.same (.same (.same (.same (.same .nil))))))))))))))))))))))))))
            · exact rfl
            · exact rfl
            · exact rfl
            · exact hB z50α (fun k => S k || Nat.beq k 15) false (or_f e23 rfl)
          · intro z50α S hc hk hp
            have e23 : S 23 = false := (not_yet (j := 23) (q := 1) hc (not_yet (j := 17) (q := 0) hc hk rfl rfl rfl rfl) rfl rfl rfl rfl)
            refine eq_H (H' := [.obj true z6 z7 (.dat (T_tally_Tally_repo z45α)) z48.2, .vec z44α.2 (T_deque_Cell_rep) z44.2.2.was.cells, .obj true z11 z12 (.dat (T_tally_Tally_repo z44α.2)) z44.2.2, .vec z45α (T_deque_Cell_rep) z48.2.was.cells, .gone]) (by first | exact hB z50α S false e23 | (have q := hB z50α S false e23; simp only [cond_true, cond_false] at q; exact q)) ?_
            refine o_fptr field49_0 type2 (by decide) T_law17_Step_foc0 rfl rfl guard_none (look_d rfl rfl (pr hp 0 rfl rfl)) (fun _ => rfl) ?_
            apply h_endA (α := z50α) z50α
            · exact (.same (.same (.same (.same (.same (.same (.same (.same (.same (.same (.same (.same (.same (.same (.same (.same (.same (.same (.same (.same (.same (.same (.same (.same (.same (.same .nil))))))))))))))))))))))))))
            · exact rfl
            · exact rfl
            · exact rfl
            · exact hB z50α (fun k => S k || Nat.beq k 16) false (or_f e23 rfl)
          · intro z50α S hc hk hp
            have e23 : S 23 = false := (not_yet (j := 23) (q := 1) hc hk rfl rfl rfl rfl)
            refine eq_H (H' := [.obj true z6 z7 (.dat (T_tally_Tally_repo z45α)) z48.2, .vec z44α.2 (T_deque_Cell_rep) z44.2.2.was.cells, .obj true z11 z12 (.dat (T_tally_Tally_repo z44α.2)) z44.2.2, .vec z45α (T_deque_Cell_rep) z48.2.was.cells, .gone]) (by first | exact hB z50α S false e23 | (have q := hB z50α S false e23; simp only [cond_true, cond_false] at q; exact q)) ?_
            refine o_load type2 rfl rfl guard_none (look_d rfl rfl (pr hp 0 rfl rfl)) (fun _ => rfl) ?_
            apply h_endA (α := z50α) z50α
            · exact (.same (.same (.same (.same (.same (.same (.same (.same (.same (.same (.same (.same (.same (.same (.same (.same (.same (.same (.same (.same (.same (.same (.same (.same (.same (.same .nil))))))))))))))))))))))))))
            · exact rfl
            · exact rfl
            · exact rfl
            · exact hB z50α (fun k => S k || Nat.beq k 17) false (or_f e23 rfl)
          · intro z50α S hc hk hp
            have e23 : S 23 = false := (not_yet (j := 23) (q := 2) hc (not_yet (j := 22) (q := 0) hc (not_yet (j := 21) (q := 0) hc (not_yet (j := 20) (q := 0) hc hk rfl rfl rfl rfl) rfl rfl rfl rfl) rfl rfl rfl rfl) rfl rfl rfl rfl)
            refine eq_H (H' := [.obj true z6 z7 (.dat (T_tally_Tally_repo z45α)) z48.2, .vec z44α.2 (T_deque_Cell_rep) z44.2.2.was.cells, .obj true z11 z12 (.dat (T_tally_Tally_repo z44α.2)) z44.2.2, .vec z45α (T_deque_Cell_rep) z48.2.was.cells, .gone]) (by first | exact hB z50α S false e23 | (have q := hB z50α S false e23; simp only [cond_true, cond_false] at q; exact q)) ?_
            refine o_move rfl rfl guard_none (look_o rfl rfl) (fun _ => rfl) ?_
            apply h_endA (α := z50α) z50α
            · exact (.same (.same (.same (.same (.same (.same (.same (.same (.same (.same (.same (.same (.same (.same (.same (.same (.same (.same (.same (.same (.same (.same (.same (.same (.same (.same .nil))))))))))))))))))))))))))
            · exact rfl
            · exact rfl
            · exact rfl
            · exact hB z50α (fun k => S k || Nat.beq k 18) false (or_f e23 rfl)
          · intro z50α S hc hk hp
            have e23 : S 23 = false := (not_yet (j := 23) (q := 2) hc (not_yet (j := 22) (q := 0) hc (not_yet (j := 21) (q := 0) hc (not_yet (j := 20) (q := 1) hc hk rfl rfl rfl rfl) rfl rfl rfl rfl) rfl rfl rfl rfl) rfl rfl rfl rfl)
            refine eq_H (H' := [.obj true z6 z7 (.dat (T_tally_Tally_repo z45α)) z48.2, .vec z44α.2 (T_deque_Cell_rep) z44.2.2.was.cells, .obj true z11 z12 (.dat (T_tally_Tally_repo z44α.2)) z44.2.2, .vec z45α (T_deque_Cell_rep) z48.2.was.cells, .gone]) (by first | exact hB z50α S false e23 | (have q := hB z50α S false e23; simp only [cond_true, cond_false] at q; exact q)) ?_
            refine o_move rfl rfl guard_none (look_o rfl rfl) (fun _ => rfl) ?_
            apply h_endA (α := z50α) z50α
            · exact (.same (.same (.same (.same (.same (.same (.same (.same (.same (.same (.same (.same (.same (.same (.same (.same (.same (.same (.same (.same (.same (.same (.same (.same (.same (.same .nil))))))))))))))))))))))))))
            · exact rfl
            · exact rfl
            · exact rfl
            · exact hB z50α (fun k => S k || Nat.beq k 19) false (or_f e23 rfl)
          · intro z50α S hc hk hp
            have e23 : S 23 = false := (not_yet (j := 23) (q := 2) hc (not_yet (j := 22) (q := 0) hc (not_yet (j := 21) (q := 0) hc hk rfl rfl rfl rfl) rfl rfl rfl rfl) rfl rfl rfl rfl)
            refine eq_H (H' := [.obj true z6 z7 (.dat (T_tally_Tally_repo z45α)) z48.2, .vec z44α.2 (T_deque_Cell_rep) z44.2.2.was.cells, .obj true z11 z12 (.dat (T_tally_Tally_repo z44α.2)) z44.2.2, .vec z45α (T_deque_Cell_rep) z48.2.was.cells, .gone]) (by first | exact hB z50α S false e23 | (have q := hB z50α S false e23; simp only [cond_true, cond_false] at q; exact q)) ?_
            refine o_from (bind_eqO h_z55) ?_
            refine o_iaddr Try.underlying44 type49 rfl rfl (look_d rfl rfl (pr hp 0 rfl rfl)) (look_d rfl rfl (pr hp 1 rfl rfl)) rfl rfl (o_eqO ?_)
            apply h_endA (α := z50α) z50α
            · exact (.same (.same (.same (.same (.same (.same (.same (.same (.same (.same (.same (.same (.same (.same (.same (.same (.same (.same (.same (.same (.same (.same (.same (.same (.same (.same .nil))))))))))))))))))))))))))
            · exact rfl
            · exact rfl
            · exact rfl
            · exact hB z50α (fun k => S k || Nat.beq k 20) false (or_f e23 rfl)
          · intro z50α S hc hk hp
            have e23 : S 23 = false := (not_yet (j := 23) (q := 2) hc (not_yet (j := 22) (q := 0) hc hk rfl rfl rfl rfl) rfl rfl rfl rfl)
            refine eq_H (H' := [.obj true z6 z7 (.dat (T_tally_Tally_repo z45α)) z48.2, .vec z44α.2 (T_deque_Cell_rep) z44.2.2.was.cells, .obj true z11 z12 (.dat (T_tally_Tally_repo z44α.2)) z44.2.2, .vec z45α (T_deque_Cell_rep) z48.2.was.cells, .gone]) (by first | exact hB z50α S false e23 | (have q := hB z50α S false e23; simp only [cond_true, cond_false] at q; exact q)) ?_
            refine o_fptr field49_1 type4 (by decide) T_law17_Step_foc1 rfl rfl guard_none (look_d rfl rfl (pr hp 0 rfl rfl)) (fun _ => rfl) ?_
            apply h_endA (α := z50α) z50α
            · exact (.same (.same (.same (.same (.same (.same (.same (.same (.same (.same (.same (.same (.same (.same (.same (.same (.same (.same (.same (.same (.same (.same (.same (.same (.same (.same .nil))))))))))))))))))))))))))
            · exact rfl
            · exact rfl
            · exact rfl
            · exact hB z50α (fun k => S k || Nat.beq k 21) false (or_f e23 rfl)
          · intro z50α S hc hk hp
            have e23 : S 23 = false := (not_yet (j := 23) (q := 2) hc hk rfl rfl rfl rfl)
            refine eq_H (H' := [.obj true z6 z7 (.dat (T_tally_Tally_repo z45α)) z48.2, .vec z44α.2 (T_deque_Cell_rep) z44.2.2.was.cells, .obj true z11 z12 (.dat (T_tally_Tally_repo z44α.2)) z44.2.2, .vec z45α (T_deque_Cell_rep) z48.2.was.cells, .gone]) (by first | exact hB z50α S false e23 | (have q := hB z50α S false e23; simp only [cond_true, cond_false] at q; exact q)) ?_
            refine o_load type4 rfl rfl guard_none (look_d rfl rfl (pr hp 0 rfl rfl)) (fun _ => rfl) ?_
            apply h_endA (α := z50α) z50α
            · exact (.same (.same (.same (.same (.same (.same (.same (.same (.same (.same (.same (.same (.same (.same (.same (.same (.same (.same (.same (.same (.same (.same (.same (.same (.same (.same .nil))))))))))))))))))))))))))
            · exact rfl
            · exact rfl
            · exact rfl
            · exact hB z50α (fun k => S k || Nat.beq k 22) false (or_f e23 rfl)
          · intro z50α S hc hk hp
            refine eq_H (H' := [.obj true z6 z7 (.dat (T_tally_Tally_repo z45α)) z48.2, .vec z44α.2 (T_deque_Cell_rep) z44.2.2.was.cells, .obj true z11 z12 (.dat (T_tally_Tally_repo z44α.2)) z44.2.2, .vec z45α (T_deque_Cell_rep) z48.2.was.cells, .gone]) (by first | exact hB z50α S false hk | (have q := hB z50α S false hk; simp only [cond_true, cond_false] at q; exact q)) ?_
            refine o_from (bind_eqO h_z56) ?_
            refine o_weak (H' := [.vec z44α.2 (T_deque_Cell_rep) z44.2.2.was.cells, .obj true z11 z12 (.dat (T_tally_Tally_repo z44α.2)) z44.2.2] ++ ([] ++ [.obj true z6 z7 (.dat (T_tally_Tally_repo z45α)) z48.2, .vec z45α (T_deque_Cell_rep) z48.2.was.cells, .gone])) (sub_pick [1, 2, 0, 3, 4] rfl rfl) ?_
            refine o_callU rfl rfl rfl rfl rfl callable23 (looks_cons (look_d rfl rfl (pr hp 0 rfl rfl)) (fun _ => rfl) (looks_cons (look_d rfl rfl (pr hp 1 rfl rfl)) (fun _ => rfl) (looks_cons (look_d rfl rfl (pr hp 2 rfl rfl)) (fun _ => rfl) (looks_nil)))) .nil (tally_Tally_Step_ok _ _ _ z44.2.2 z54.At z55.Is) (fun _ _ => (wr_v (wr_c wr_n))) (fun z57α => o_eqOH ?_)
            refine o_weak (H' := [.vec z57α (T_deque_Cell_rep) z56.2.was.cells, .obj true z11 z12 (.dat (T_tally_Tally_repo z57α)) z56.2, .obj true z6 z7 (.dat (T_tally_Tally_repo z45α)) z48.2, .vec z45α (T_deque_Cell_rep) z48.2.was.cells, .gone]) (sub_pick [0, 1, 2, 3, 4] rfl rfl) ?_
            refine o_weak sub_gone ?_
            refine o_weak (H' := [.obj true z6 z7 (.dat (T_tally_Tally_repo z45α)) z48.2, .gone, .obj true z11 z12 (.dat (T_tally_Tally_repo z57α)) z56.2, .vec z45α (T_deque_Cell_rep) z48.2.was.cells, .vec z57α (T_deque_Cell_rep) z56.2.was.cells]) (sub_pick [3, 0, 2, 4, 1] rfl rfl) ?_
            apply h_endA (α := z50α) z57α
            · exact (.same (.same (.same (.same (.same (.same (.same (.same (.same (.same (.same (.same (.same (.same (.same (.same (.same (.same (.same (.same (.same (.same (.same (.same (.same (.same .nil))))))))))))))))))))))))))
            · exact rfl
            · exact rfl
            · exact rfl
            · exact hB z57α (fun k => S k || Nat.beq k 23) true (or_i rfl)
          · intro z50α S hc hk hp
            have e23 : S 23 = true := (pr hp 1 rfl rfl)
            refine eq_H (H' := [.obj true z6 z7 (.dat (T_tally_Tally_repo z45α)) z48.2, .gone, .obj true z11 z12 (.dat (T_tally_Tally_repo z50α)) z56.2, .vec z45α (T_deque_Cell_rep) z48.2.was.cells, .vec (z50α) (T_deque_Cell_rep) z56.2.was.cells]) (by first | exact hB z50α S true e23 | (have q := hB z50α S true e23; simp only [cond_true, cond_false] at q; exact q)) ?_
            refine o_assign rfl rfl guard_none (look_d rfl rfl (pr hp 0 rfl rfl)) (fun _ => rfl) ?_
            apply h_endA (α := z50α) z50α
            · exact (.same (.same (.same (.same (.same (.same (.same (.same (.same (.same (.same (.same (.same (.same (.same (.same (.same (.same (.same (.same (.same (.same (.same (.same (.same (.same .nil))))))))))))))))))))))))))
            · exact rfl
            · exact rfl
            · exact rfl
            · exact hB z50α (fun k => S k || Nat.beq k 24) true (or_t e23)
          · intro z50α S hc hk hp
            have e23 : S 23 = true := (pr hp 0 rfl rfl)
            refine eq_H (H' := [.obj true z6 z7 (.dat (T_tally_Tally_repo z45α)) z48.2, .gone, .obj true z11 z12 (.dat (T_tally_Tally_repo z50α)) z56.2, .vec z45α (T_deque_Cell_rep) z48.2.was.cells, .vec (z50α) (T_deque_Cell_rep) z56.2.was.cells]) (by first | exact hB z50α S true e23 | (have q := hB z50α S true e23; simp only [cond_true, cond_false] at q; exact q)) ?_
            refine o_assign rfl rfl guard_none (look_d rfl rfl (pr hp 0 rfl rfl)) (fun _ => rfl) ?_
            apply h_endA (α := z50α) z50α
            · exact (.same (.same (.same (.same (.same (.same (.same (.same (.same (.same (.same (.same (.same (.same (.same (.same (.same (.same (.same (.same (.same (.same (.same (.same (.same (.same .nil))))))))))))))))))))))))))
            · exact rfl
            · exact rfl
            · exact rfl
            · exact hB z50α (fun k => S k || Nat.beq k 25) true (or_t e23)
          refine den_weak (H' := [.obj true z6 z7 (.dat (T_tally_Tally_repo z45α)) z48.2, .obj true z11 z12 (.dat (T_tally_Tally_repo z50α)) z56.2, .vec z45α (T_deque_Cell_rep) z48.2.was.cells, .vec z50α (T_deque_Cell_rep) z56.2.was.cells]) (sub_pick [0, 2, 3, 4] rfl rfl) ?_
          refine den_seq ?_
          refine den_region rfl ?_
          refine o_move rfl rfl guard_none (look_tmp rfl) (fun _ => rfl) ?_
          refine o_move rfl rfl guard_none (look_tmp rfl) (fun _ => rfl) ?_
          refine o_neq rfl rfl guard_none (look_tmp rfl) (look_tmp rfl) (fun _ => rfl) (fun _ => rfl) ?_
          refine o_move rfl rfl guard_none (look_tmp rfl) (fun _ => rfl) ?_
          refine o_move rfl rfl (guard_some rfl rfl rfl) (look_tmp rfl) (fun _ => rfl) ?_
          refine o_callg rfl rfl rfl (guard_some rfl rfl rfl) callable24 (looks_cons (look_tmp rfl) (fun h => h) (looks_nil)) (tally_Tally_Cells_n0_ok) (fun z58 => ?_)
          refine o_move rfl rfl (guard_some rfl rfl rfl) (look_tmp rfl) (fun _ => rfl) ?_
          refine o_weak (H' := [] ++ ([.vec z50α (T_deque_Cell_rep) z56.2.was.cells, .obj true z11 z12 (.dat (T_tally_Tally_repo z50α)) z56.2] ++ [.obj true z6 z7 (.dat (T_tally_Tally_repo z45α)) z48.2, .vec z45α (T_deque_Cell_rep) z48.2.was.cells])) (sub_pick [3, 1, 0, 2] rfl rfl) ?_
          refine o_callX (its := []) (0 : Int) () rfl rfl rfl rfl (guard_some rfl rfl rfl) callable24 (looks_cons (look_tmp rfl) (fun h => h) (looks_nil)) (.vec (.cons .nil)) (tally_Tally_Cells_ok _ _ _ z56.2) (fun _ _ => wr_n) ?_ (fun z60α z59 => ?_)
          · exact fun _ => rfl
          refine o_weak (H' := [.vec z50α (T_deque_Cell_rep) z56.2.was.cells, .obj true z11 z12 (.dat (T_tally_Tally_repo z50α)) z56.2, .obj true z6 z7 (.dat (T_tally_Tally_repo z45α)) z48.2, .vec z45α (T_deque_Cell_rep) z48.2.was.cells]) (sub_pick [0, 1, 2, 3] rfl rfl) ?_
          refine o_neq rfl rfl (guard_some rfl rfl rfl) (look_tmp rfl) (look_tmp rfl) (fun h => h) (fun h => h) ?_
          refine o_pick rfl rfl guard_none (look_tmp rfl) look_bool (look_tmp rfl) (fun _ => rfl) (fun _ _ => rfl) (fun h1 h2 => pick_f ((fun _ => rfl) h1) h2) ?_
          refine o_end ?_
          refine den_cond (look_tmp rfl) ?_ ?_
          · refine den_seq ?_
            refine den_region rfl ?_
            refine o_assign rfl rfl guard_none look_bool (fun _ => rfl) ?_
            refine o_end ?_
            refine den_code_ret ?_
            refine dene_ret ?_
            refine dene_loopA (by simp) ?_
            refine dene_ret ?_
            refine dene_both (by simp) ?_
            refine dene_ret ?_
            exact dene_res (res1 rfl (rv_tmp rfl))
          · refine den_skip ?_
            refine den_blkend ?_
            refine den_region rfl ?_
            refine o_move rfl rfl guard_none (look_tmp rfl) (fun _ => rfl) ?_
            refine o_add rfl rfl guard_none (look_tmp rfl) (look_int rfl) (fun _ => rfl) (fun _ => rfl) ?_
            refine o_assign rfl rfl guard_none (look_tmp rfl) (fun _ => rfl) ?_
            refine o_end ?_
            refine den_nextA (z45α, z50α) ((Sub.trans (sub_pick [3, 2, 0, 1] rfl rfl) (sub_env (sube_cons rfl (sube_cons rfl (sube_cons rfl (sube_cons rfl (sube_cons rfl (sube_nil)))))))))
        · refine den_code_exit ?_
          refine dene_out rfl ?_
          refine dene_loopA (by simp) ?_
          refine dene_to rfl ?_
          refine den_endl ((Sub.trans (sub_pick [] rfl rfl) (sub_env (sube_nil))))
      refine den_seq ?_
      refine den_region rfl ?_
      refine o_assign rfl rfl guard_none look_nilp (fun _ => rfl) ?_
      refine o_end ?_
      refine den_seq ?_
      refine den_region rfl ?_
      refine o_weak (sub_nilvec (R := T_deque_Cell_rep) rfl) ?_
      refine o_build (R := T_tally_Tally_repo0 (Value.slice none 0 0)) (f := T_tally_Tally_tupo) (y := (⟨0, 0, false, T_deque_Deque_zero⟩ : T_tally_Tally)) shape53 rfl rfl rfl rfl guard_none (bld_zero (z_int rfl) (bld_zero (z_int rfl) (bld_zero (z_bool rfl) (bld_zero (z_iso (z_cons (z_isv rfl) (z_cons (z_int rfl) (z_cons (z_int rfl) z_nil0))) rfl) (bld_nil))))) ?_
      refine o_box rfl rfl (look_tmp rfl) rfl (fun z27 => ?_)
      refine o_assign rfl rfl guard_none (look_tmp rfl) (fun _ => rfl) ?_
      refine o_end ?_
      refine den_seq ?_
      refine den_region rfl ?_
      refine o_move rfl rfl guard_none (look_tmp rfl) (fun _ => rfl) ?_
      refine o_call rfl rfl rfl callable23 (looks_cons (look_tmp rfl) (fun _ => rfl) (looks_cons (look_int rfl) (fun _ => rfl) (looks_cons look_bool (fun _ => rfl) (looks_nil)))) (tally_Tally_Step_n0_ok _ _) (fun z28 => ?_)
      refine o_eql rfl rfl guard_none (look_tmp rfl) (look_int rfl) (fun _ => rfl) (fun _ => rfl) ?_
      refine o_move rfl rfl guard_none (look_tmp rfl) (fun _ => rfl) ?_
      refine o_move rfl rfl (guard_some rfl rfl rfl) (look_tmp rfl) (fun _ => rfl) ?_
      refine o_callg rfl rfl rfl (guard_some rfl rfl rfl) callable24 (looks_cons (look_tmp rfl) (fun h => h) (looks_nil)) (tally_Tally_Cells_n0_ok) (fun z29 => ?_)
      refine o_eql rfl rfl (guard_some rfl rfl rfl) (look_tmp rfl) (look_int rfl) (fun h => h) (fun _ => rfl) ?_
      refine o_pick rfl rfl guard_none (look_tmp rfl) (look_tmp rfl) look_bool (fun _ => rfl) (fun h1 h2 => pick_t ((fun _ => rfl) h1) h2) (fun _ _ => rfl) ?_
      refine o_move rfl rfl guard_none (look_tmp rfl) (fun _ => rfl) ?_
      refine o_move rfl rfl (guard_some rfl rfl rfl) (look_tmp rfl) (fun _ => rfl) ?_
      refine o_callg rfl rfl rfl (guard_some rfl rfl rfl) callable27 (looks_cons (look_tmp rfl) (fun h => h) (looks_nil)) (tally_Tally_Clone_n0_ok) (fun z30 => ?_)
      refine o_neql Try.underlying39 rfl rfl (guard_some rfl rfl rfl) (look_tmp rfl) (fun h => h) ?_
      refine o_pick rfl rfl guard_none (look_tmp rfl) (look_tmp rfl) look_bool (fun _ => rfl) (fun h1 h2 => pick_t ((fun _ => rfl) h1) h2) (fun _ _ => rfl) ?_
      refine o_move rfl rfl guard_none (look_tmp rfl) (fun _ => rfl) ?_
      refine o_move rfl rfl (guard_some rfl rfl rfl) (look_tmp rfl) (fun _ => rfl) ?_
      refine o_weak (H' := [.obj true z27 0 (.dat (T_tally_Tally_repo (Value.slice none 0 0))) (⟨0, 0, false, T_deque_Deque_zero⟩ : T_tally_Tally), .vec (Value.slice none 0 0) (T_deque_Cell_rep) ([] : List T_deque_Cell)]) (sub_pick [0, 1] rfl rfl) ?_
      refine o_weak (sub_redat ({ (⟨0, 0, false, T_deque_Deque_zero⟩ : T_tally_Tally) with was := { T_deque_Deque_zero with cells := ([] : List T_deque_Cell) } }) (fun _ _ _ h => h)) ?_
      refine o_weak (H' := [.vec (Value.slice none 0 0) (T_deque_Cell_rep) ([] : List T_deque_Cell), .obj true z27 0 (.dat (T_tally_Tally_repo (Value.slice none 0 0))) ({ (⟨0, 0, false, T_deque_Deque_zero⟩ : T_tally_Tally) with was := { T_deque_Deque_zero with cells := ([] : List T_deque_Cell) } })] ++ ([] ++ [])) (sub_pick [1, 0] rfl rfl) ?_
      refine o_callX (its := [.vec (Value.slice none 0 0) (T_deque_Cell_rep) ([] : List T_deque_Cell), .obj true z27 0 (.dat (T_tally_Tally_repo (Value.slice none 0 0))) ({ (⟨0, 0, false, T_deque_Deque_zero⟩ : T_tally_Tally) with was := { T_deque_Deque_zero with cells := ([] : List T_deque_Cell) } })]) ((0, { (⟨0, 0, false, T_deque_Deque_zero⟩ : T_tally_Tally) with was := { T_deque_Deque_zero with cells := ([] : List T_deque_Cell) } }) : (Int × T_tally_Tally)) (Value.slice none 0 0) rfl rfl rfl rfl (guard_some rfl rfl rfl) callable23 (looks_cons (look_tmp rfl) (fun h => h) (looks_cons (look_int rfl) (fun _ => rfl) (looks_cons look_bool (fun _ => rfl) (looks_nil)))) .nil (tally_Tally_Step_ok _ _ _ ({ (⟨0, 0, false, T_deque_Deque_zero⟩ : T_tally_Tally) with was := { T_deque_Deque_zero with cells := ([] : List T_deque_Cell) } }) 0 true) (fun _ _ => (wr_v (wr_c wr_n))) ?_ (fun z32α z31 => ?_)
      · exact fun _ => rfl
      refine o_weak (H' := [.vec z32α (T_deque_Cell_rep) z31.2.was.cells, .obj true z27 0 (.dat (T_tally_Tally_repo z32α)) z31.2]) (sub_pick [0, 1] rfl rfl) ?_
      refine o_eql rfl rfl (guard_some rfl rfl rfl) (look_tmp rfl) (look_int rfl) (fun h => h) (fun _ => rfl) ?_
      refine o_pick rfl rfl guard_none (look_tmp rfl) (look_tmp rfl) look_bool (fun _ => rfl) (fun h1 h2 => pick_t ((fun _ => rfl) h1) h2) (fun _ _ => rfl) ?_
      refine o_move rfl rfl guard_none (look_tmp rfl) (fun _ => rfl) ?_
      refine o_move rfl rfl (guard_some rfl rfl rfl) (look_tmp rfl) (fun _ => rfl) ?_
      refine o_weak (H' := [] ++ ([.vec z32α (T_deque_Cell_rep) z31.2.was.cells, .obj true z27 0 (.dat (T_tally_Tally_repo z32α)) z31.2] ++ [])) (sub_pick [0, 1] rfl rfl) ?_
      refine o_callX (its := []) (0 : Int) () rfl rfl rfl rfl (guard_some rfl rfl rfl) callable24 (looks_cons (look_tmp rfl) (fun h => h) (looks_nil)) (.vec (.cons .nil)) (tally_Tally_Cells_ok _ _ _ z31.2) (fun _ _ => wr_n) ?_ (fun z35α z34 => ?_)
      · exact fun _ => rfl
      refine o_weak (H' := [.vec z32α (T_deque_Cell_rep) z31.2.was.cells, .obj true z27 0 (.dat (T_tally_Tally_repo z32α)) z31.2]) (sub_pick [0, 1] rfl rfl) ?_
      refine o_eql rfl rfl (guard_some rfl rfl rfl) (look_tmp rfl) (look_int rfl) (fun h => h) (fun _ => rfl) ?_
      refine o_pick rfl rfl guard_none (look_tmp rfl) (look_tmp rfl) look_bool (fun _ => rfl) (fun h1 h2 => pick_t ((fun _ => rfl) h1) h2) (fun _ _ => rfl) ?_
      refine o_move rfl rfl guard_none (look_tmp rfl) (fun _ => rfl) ?_
      refine o_move rfl rfl (guard_some rfl rfl rfl) (look_tmp rfl) (fun _ => rfl) ?_
      refine o_weak (H' := [] ++ ([.vec z32α (T_deque_Cell_rep) z31.2.was.cells, .obj true z27 0 (.dat (T_tally_Tally_repo z32α)) z31.2] ++ [])) (sub_pick [0, 1] rfl rfl) ?_
      refine o_callX (its := []) (none : (Option T_tally_Tally)) ((0, 0), (Value.slice none 0 0)) rfl rfl rfl rfl (guard_some rfl rfl rfl) callable27 (looks_cons (look_tmp rfl) (fun h => h) (looks_nil)) (.vec (.cons .nil)) (tally_Tally_Clone_ok _ _ _ z31.2) (fun _ _ => (wr_ol (fun _ => (wr_v (wr_c wr_n))) wr_n)) ?_ (fun z37α z36 => ?_)
      · exact fun _ => rfl
      obtain ⟨⟨z38, z39⟩, z40⟩ := z37α
      rcases z36 with _ | z41
      · refine o_weak (H' := [.vec z32α (T_deque_Cell_rep) z31.2.was.cells, .obj true z27 0 (.dat (T_tally_Tally_repo z32α)) z31.2]) (sub_pick [0, 1] rfl rfl) ?_
        refine o_asnil ?_
        refine o_optn ?_
        refine o_neql Try.underlying39 rfl rfl (guard_some rfl rfl rfl) (look_tmp rfl) (fun h => h) ?_
        refine o_pick rfl rfl guard_none (look_tmp rfl) (look_tmp rfl) look_bool (fun _ => rfl) (fun h1 h2 => pick_t ((fun _ => rfl) h1) h2) (fun _ _ => rfl) ?_
        refine o_assign rfl rfl guard_none (look_tmp rfl) (fun _ => rfl) ?_
        refine o_lt (fun z42 => ?_)
        refine o_end ?_
        refine den_code_ret ?_
        exact dene_res (res1 rfl (rv_tmp rfl))
      · refine o_weak (H' := [.vec z40 (T_deque_Cell_rep) z41.was.cells, .obj true z38 z39 (.dat (T_tally_Tally_repo z40)) z41, .vec z32α (T_deque_Cell_rep) z31.2.was.cells, .obj true z27 0 (.dat (T_tally_Tally_repo z32α)) z31.2]) (sub_pick [0, 1, 2, 3] rfl rfl) ?_
        refine o_asptr ?_
        refine o_opts ?_
        refine o_peql Try.underlying39 rfl rfl (guard_some rfl rfl rfl) (look_tmp rfl) (fun h => h) ?_
        refine o_pick rfl rfl guard_none (look_tmp rfl) (look_tmp rfl) look_bool (fun _ => rfl) (fun h1 h2 => pick_t ((fun _ => rfl) h1) h2) (fun _ _ => rfl) ?_
        refine o_assign rfl rfl guard_none (look_tmp rfl) (fun _ => rfl) ?_
        refine o_lt (fun z43 => ?_)
        refine o_end ?_
        refine den_code_ret ?_
        exact dene_res (res1 rfl (rv_tmp rfl))
    · refine o_weak (H' := [.vec z24 (T_deque_Cell_rep) z25.was.cells, .obj true z22 z23 (.dat (T_tally_Tally_repo z24)) z25, .vec z19α.2 (T_deque_Cell_rep) z19.2.was.cells, .obj true z6 z7 (.dat (T_tally_Tally_repo z19α.2)) z19.2, .vec z19α.1 (T_deque_Cell_rep) z19.1.was.cells, .obj true z11 z12 (.dat (T_tally_Tally_repo z19α.1)) z19.1]) (sub_pick [0, 1, 2, 3, 4, 5] rfl rfl) ?_
      refine o_asptr ?_
      refine o_opts ?_
      refine o_assign rfl rfl guard_none (look_tmp rfl) (fun _ => rfl) ?_
      refine o_end ?_
      refine den_seq ?_
      refine den_seq ?_
      refine den_region rfl ?_
      refine o_assign rfl rfl guard_none (look_int rfl) (fun _ => rfl) ?_
      refine o_end ?_
      refine den_both (fun z61 => []) (fun z61 => []) ?_ (fun z61 => ?_)
      · refine den_block ?_
        refine den_loopA (A := (Value × Value × Value)) (law17_TallyClones_L2b z3) (fun z79α z79 => [(17, ⟨Rep.int .i64, z79.1, true⟩), (3, ⟨(T_law17_Step_rep).slice, z3, true⟩), (9, ⟨Rep.addr, (z6, z7), true⟩), (10, ⟨Rep.addr, (z11, z12), true⟩), (16, ⟨Rep.addr, (z22, z23), true⟩)]) (fun z79α z79 => [.vec z79α.1 (T_deque_Cell_rep) z79.2.1.was.cells, .obj true z22 z23 (.dat (T_tally_Tally_repo z79α.1)) z79.2.1, .vec z79α.2.1 (T_deque_Cell_rep) z79.2.2.1.was.cells, .obj true z6 z7 (.dat (T_tally_Tally_repo z79α.2.1)) z79.2.2.1, .vec z79α.2.2 (T_deque_Cell_rep) z79.2.2.2.was.cells, .obj true z11 z12 (.dat (T_tally_Tally_repo z79α.2.2)) z79.2.2.2]) (0, z25, z19.2, z19.1) (z24, z19α.2, z19α.1) (fun z79α z79 => ?_) ((sub_env (sube_cons rfl (sube_cons rfl (sube_cons rfl (sube_cons rfl (sube_cons rfl (sube_nil))))))))
        refine den_seq ?_
        refine den_seq ?_
        refine den_region rfl ?_
        refine o_move rfl rfl guard_none (look_tmp rfl) (fun _ => rfl) ?_
        refine o_move rfl rfl guard_none (look_tmp rfl) (fun _ => rfl) ?_
        refine o_llen Try.underlying44 rfl rfl guard_none (look_tmp rfl) (fun _ => rfl) ?_
        refine o_lss rfl rfl guard_none (look_tmp rfl) (look_tmp rfl) (fun _ => rfl) (fun _ => rfl) ?_
        refine o_end ?_
        refine den_cond (look_tmp rfl) ?_ ?_
        · refine den_skip ?_
          refine den_seq ?_
          refine den_block ?_
          refine den_seq ?_
          refine den_open (fun z81 h_z81 => ?_)
          refine den_open (fun z82 h_z82 => ?_)
          refine den_open (fun z83 h_z83 => ?_)
          have hB : ∀ (z80α : Value) (S : Nat → Bool) (b12 : Bool), S 12 = b12 → (([.vec z79α.1 (T_deque_Cell_rep) z79.2.1.was.cells, .obj true z22 z23 (.dat (T_tally_Tally_repo z79α.1)) z79.2.1, (cond (S 12) (.gone) (.vec z79α.2.1 (T_deque_Cell_rep) z79.2.2.1.was.cells)), (cond (S 12) (.obj true z6 z7 (.dat (T_tally_Tally_repo z80α)) z83.2) (.obj true z6 z7 (.dat (T_tally_Tally_repo z79α.2.1)) z79.2.2.1)), .vec z79α.2.2 (T_deque_Cell_rep) z79.2.2.2.was.cells, .obj true z11 z12 (.dat (T_tally_Tally_repo z79α.2.2)) z79.2.2.2, (cond (S 12) (.vec (z80α) (T_deque_Cell_rep) z83.2.was.cells) (.gone))] : List Go.Eng.Item)) = ([.vec z79α.1 (T_deque_Cell_rep) z79.2.1.was.cells, .obj true z22 z23 (.dat (T_tally_Tally_repo z79α.1)) z79.2.1, (cond b12 (.gone) (.vec z79α.2.1 (T_deque_Cell_rep) z79.2.2.1.was.cells)), (cond b12 (.obj true z6 z7 (.dat (T_tally_Tally_repo z80α)) z83.2) (.obj true z6 z7 (.dat (T_tally_Tally_repo z79α.2.1)) z79.2.2.1)), .vec z79α.2.2 (T_deque_Cell_rep) z79.2.2.2.was.cells, .obj true z11 z12 (.dat (T_tally_Tally_repo z79α.2.2)) z79.2.2.2, (cond b12 (.vec (z80α) (T_deque_Cell_rep) z83.2.was.cells) (.gone))] : List Go.Eng.Item) := fun z80α S b12 h12 => by subst h12; rfl
          refine den_weak sub_gone ?_
          refine den_weak (sub_pick (H' := [.vec z79α.1 (T_deque_Cell_rep) z79.2.1.was.cells, .obj true z22 z23 (.dat (T_tally_Tally_repo z79α.1)) z79.2.1, .vec z79α.2.1 (T_deque_Cell_rep) z79.2.2.1.was.cells, .obj true z6 z7 (.dat (T_tally_Tally_repo z79α.2.1)) z79.2.2.1, .vec z79α.2.2 (T_deque_Cell_rep) z79.2.2.2.was.cells, .obj true z11 z12 (.dat (T_tally_Tally_repo z79α.2.2)) z79.2.2.2, .gone]) [1, 2, 3, 4, 5, 6, 0] rfl rfl) ?_
          refine den_drawA (A := Value) (H' := fun z80α => [.vec z79α.1 (T_deque_Cell_rep) z79.2.1.was.cells, .obj true z22 z23 (.dat (T_tally_Tally_repo z79α.1)) z79.2.1, .gone, .obj true z6 z7 (.dat (T_tally_Tally_repo z80α)) z83.2, .vec z79α.2.2 (T_deque_Cell_rep) z79.2.2.2.was.cells, .obj true z11 z12 (.dat (T_tally_Tally_repo z79α.2.2)) z79.2.2.2, .vec (z80α) (T_deque_Cell_rep) z83.2.was.cells]) (fun z80α => [(94, ⟨Rep.addr, (z6, z7), true⟩), (95, ⟨(T_law17_Step_rep).slice, z3, true⟩), (96, ⟨Rep.int .i64, z79.1, true⟩), (97, ⟨(T_law17_Step_rep).ptrTo, z81, true⟩), (98, ⟨(Rep.int .i64).ptrTo, z81.At, true⟩), (99, ⟨Rep.int .i64, z81.At, true⟩), (100, ⟨(T_law17_Step_rep).slice, z3, true⟩), (101, ⟨Rep.int .i64, z79.1, true⟩), (102, ⟨(T_law17_Step_rep).ptrTo, z82, true⟩), (103, ⟨(Rep.bool).ptrTo, z82.Is, true⟩), (104, ⟨Rep.bool, z82.Is, true⟩), (105, ⟨Rep.bool, !z82.Is, true⟩), (106, ⟨Rep.int .i64, z83.1, true⟩)]) (fun z80α S => [.vec z79α.1 (T_deque_Cell_rep) z79.2.1.was.cells, .obj true z22 z23 (.dat (T_tally_Tally_repo z79α.1)) z79.2.1, (cond (S 12) (.gone) (.vec z79α.2.1 (T_deque_Cell_rep) z79.2.2.1.was.cells)), (cond (S 12) (.obj true z6 z7 (.dat (T_tally_Tally_repo z80α)) z83.2) (.obj true z6 z7 (.dat (T_tally_Tally_repo z79α.2.1)) z79.2.2.1)), .vec z79α.2.2 (T_deque_Cell_rep) z79.2.2.2.was.cells, .obj true z11 z12 (.dat (T_tally_Tally_repo z79α.2.2)) z79.2.2.2, (cond (S 12) (.vec (z80α) (T_deque_Cell_rep) z83.2.was.cells) (.gone))]) (Value.slice none 0 0) mixed (fun _ => rfl) rfl rfl (fun z80α S hS => hB z80α S true (hS 12 (by decide))) ⟨?_, ?_, ?_, ?_, ?_, ?_, ?_, ?_, ?_, ?_, ?_, ?_, ?_, trivial⟩ (fun z80α => ?_)
          · intro z80α S hc hk hp
            have e12 : S 12 = false := (not_yet (j := 12) (q := 0) hc hk rfl rfl rfl rfl)
            refine eq_H (H' := [.vec z79α.1 (T_deque_Cell_rep) z79.2.1.was.cells, .obj true z22 z23 (.dat (T_tally_Tally_repo z79α.1)) z79.2.1, .vec z79α.2.1 (T_deque_Cell_rep) z79.2.2.1.was.cells, .obj true z6 z7 (.dat (T_tally_Tally_repo z79α.2.1)) z79.2.2.1, .vec z79α.2.2 (T_deque_Cell_rep) z79.2.2.2.was.cells, .obj true z11 z12 (.dat (T_tally_Tally_repo z79α.2.2)) z79.2.2.2, .gone]) (by first | exact hB z80α S false e12 | (have q := hB z80α S false e12; simp only [cond_true, cond_false] at q; exact q)) ?_
            refine o_move rfl rfl guard_none (look_o rfl rfl) (fun _ => rfl) ?_
            apply h_endA (α := z80α) z80α
            · exact (.same (.same (.same (.same (.same (.same (.same (.same (.same (.same (.same (.same (.same .nil)))))))))))))
            · exact rfl
            · exact rfl
            · exact rfl
            · exact hB z80α (fun k => S k || Nat.beq k 0) false (or_f e12 rfl)
          · intro z80α S hc hk hp
            have e12 : S 12 = false := (not_yet (j := 12) (q := 1) hc (not_yet (j := 5) (q := 0) hc (not_yet (j := 4) (q := 0) hc (not_yet (j := 3) (q := 0) hc hk rfl rfl rfl rfl) rfl rfl rfl rfl) rfl rfl rfl rfl) rfl rfl rfl rfl)
            refine eq_H (H' := [.vec z79α.1 (T_deque_Cell_rep) z79.2.1.was.cells, .obj true z22 z23 (.dat (T_tally_Tally_repo z79α.1)) z79.2.1, .vec z79α.2.1 (T_deque_Cell_rep) z79.2.2.1.was.cells, .obj true z6 z7 (.dat (T_tally_Tally_repo z79α.2.1)) z79.2.2.1, .vec z79α.2.2 (T_deque_Cell_rep) z79.2.2.2.was.cells, .obj true z11 z12 (.dat (T_tally_Tally_repo z79α.2.2)) z79.2.2.2, .gone]) (by first | exact hB z80α S false e12 | (have q := hB z80α S false e12; simp only [cond_true, cond_false] at q; exact q)) ?_
            refine o_move rfl rfl guard_none (look_o rfl rfl) (fun _ => rfl) ?_
            apply h_endA (α := z80α) z80α
            · exact (.same (.same (.same (.same (.same (.same (.same (.same (.same (.same (.same (.same (.same .nil)))))))))))))
            · exact rfl
            · exact rfl
            · exact rfl
            · exact hB z80α (fun k => S k || Nat.beq k 1) false (or_f e12 rfl)
          · intro z80α S hc hk hp
            have e12 : S 12 = false := (not_yet (j := 12) (q := 1) hc (not_yet (j := 5) (q := 0) hc (not_yet (j := 4) (q := 0) hc (not_yet (j := 3) (q := 1) hc hk rfl rfl rfl rfl) rfl rfl rfl rfl) rfl rfl rfl rfl) rfl rfl rfl rfl)
            refine eq_H (H' := [.vec z79α.1 (T_deque_Cell_rep) z79.2.1.was.cells, .obj true z22 z23 (.dat (T_tally_Tally_repo z79α.1)) z79.2.1, .vec z79α.2.1 (T_deque_Cell_rep) z79.2.2.1.was.cells, .obj true z6 z7 (.dat (T_tally_Tally_repo z79α.2.1)) z79.2.2.1, .vec z79α.2.2 (T_deque_Cell_rep) z79.2.2.2.was.cells, .obj true z11 z12 (.dat (T_tally_Tally_repo z79α.2.2)) z79.2.2.2, .gone]) (by first | exact hB z80α S false e12 | (have q := hB z80α S false e12; simp only [cond_true, cond_false] at q; exact q)) ?_
            refine o_move rfl rfl guard_none (look_o rfl rfl) (fun _ => rfl) ?_
            apply h_endA (α := z80α) z80α
            · exact (.same (.same (.same (.same (.same (.same (.same (.same (.same (.same (.same (.same (.same .nil)))))))))))))
            · exact rfl
            · exact rfl
            · exact rfl
            · exact hB z80α (fun k => S k || Nat.beq k 2) false (or_f e12 rfl)
          · intro z80α S hc hk hp
            have e12 : S 12 = false := (not_yet (j := 12) (q := 1) hc (not_yet (j := 5) (q := 0) hc (not_yet (j := 4) (q := 0) hc hk rfl rfl rfl rfl) rfl rfl rfl rfl) rfl rfl rfl rfl)
            refine eq_H (H' := [.vec z79α.1 (T_deque_Cell_rep) z79.2.1.was.cells, .obj true z22 z23 (.dat (T_tally_Tally_repo z79α.1)) z79.2.1, .vec z79α.2.1 (T_deque_Cell_rep) z79.2.2.1.was.cells, .obj true z6 z7 (.dat (T_tally_Tally_repo z79α.2.1)) z79.2.2.1, .vec z79α.2.2 (T_deque_Cell_rep) z79.2.2.2.was.cells, .obj true z11 z12 (.dat (T_tally_Tally_repo z79α.2.2)) z79.2.2.2, .gone]) (by first | exact hB z80α S false e12 | (have q := hB z80α S false e12; simp only [cond_true, cond_false] at q; exact q)) ?_
            refine o_from (bind_eqO h_z81) ?_
            refine o_iaddr Try.underlying44 type49 rfl rfl (look_d rfl rfl (pr hp 0 rfl rfl)) (look_d rfl rfl (pr hp 1 rfl rfl)) rfl rfl (o_eqO ?_)
            apply h_endA (α := z80α) z80α
            · exact (.same (.same (.same (.same (.same (.same (.same (.same (.same (.same (.same (.same (.same .nil)))))))))))))
            · exact rfl
            · exact rfl
            · exact rfl
            · exact hB z80α (fun k => S k || Nat.beq k 3) false (or_f e12 rfl)
          · intro z80α S hc hk hp
            have e12 : S 12 = false := (not_yet (j := 12) (q := 1) hc (not_yet (j := 5) (q := 0) hc hk rfl rfl rfl rfl) rfl rfl rfl rfl)
            refine eq_H (H' := [.vec z79α.1 (T_deque_Cell_rep) z79.2.1.was.cells, .obj true z22 z23 (.dat (T_tally_Tally_repo z79α.1)) z79.2.1, .vec z79α.2.1 (T_deque_Cell_rep) z79.2.2.1.was.cells, .obj true z6 z7 (.dat (T_tally_Tally_repo z79α.2.1)) z79.2.2.1, .vec z79α.2.2 (T_deque_Cell_rep) z79.2.2.2.was.cells, .obj true z11 z12 (.dat (T_tally_Tally_repo z79α.2.2)) z79.2.2.2, .gone]) (by first | exact hB z80α S false e12 | (have q := hB z80α S false e12; simp only [cond_true, cond_false] at q; exact q)) ?_
            refine o_fptr field49_0 type2 (by decide) T_law17_Step_foc0 rfl rfl guard_none (look_d rfl rfl (pr hp 0 rfl rfl)) (fun _ => rfl) ?_
            apply h_endA (α := z80α) z80α
            · exact (.same (.same (.same (.same (.same (.same (.same (.same (.same (.same (.same (.same (.same .nil)))))))))))))
            · exact rfl
            · exact rfl
            · exact rfl
            · exact hB z80α (fun k => S k || Nat.beq k 4) false (or_f e12 rfl)
          · intro z80α S hc hk hp
            have e12 : S 12 = false := (not_yet (j := 12) (q := 1) hc hk rfl rfl rfl rfl)
            refine eq_H (H' := [.vec z79α.1 (T_deque_Cell_rep) z79.2.1.was.cells, .obj true z22 z23 (.dat (T_tally_Tally_repo z79α.1)) z79.2.1, .vec z79α.2.1 (T_deque_Cell_rep) z79.2.2.1.was.cells, .obj true z6 z7 (.dat (T_tally_Tally_repo z79α.2.1)) z79.2.2.1, .vec z79α.2.2 (T_deque_Cell_rep) z79.2.2.2.was.cells, .obj true z11 z12 (.dat (T_tally_Tally_repo z79α.2.2)) z79.2.2.2, .gone]) (by first | exact hB z80α S false e12 | (have q := hB z80α S false e12; simp only [cond_true, cond_false] at q; exact q)) ?_
            refine o_load type2 rfl rfl guard_none (look_d rfl rfl (pr hp 0 rfl rfl)) (fun _ => rfl) ?_
            apply h_endA (α := z80α) z80α
            · exact (.same (.same (.same (.same (.same (.same (.same (.same (.same (.same (.same (.same (.same .nil)))))))))))))
            · exact rfl
            · exact rfl
            · exact rfl
            · exact hB z80α (fun k => S k || Nat.beq k 5) false (or_f e12 rfl)
          · intro z80α S hc hk hp
            have e12 : S 12 = false := (not_yet (j := 12) (q := 2) hc (not_yet (j := 11) (q := 0) hc (not_yet (j := 10) (q := 0) hc (not_yet (j := 9) (q := 0) hc (not_yet (j := 8) (q := 0) hc hk rfl rfl rfl rfl) rfl rfl rfl rfl) rfl rfl rfl rfl) rfl rfl rfl rfl) rfl rfl rfl rfl)
            refine eq_H (H' := [.vec z79α.1 (T_deque_Cell_rep) z79.2.1.was.cells, .obj true z22 z23 (.dat (T_tally_Tally_repo z79α.1)) z79.2.1, .vec z79α.2.1 (T_deque_Cell_rep) z79.2.2.1.was.cells, .obj true z6 z7 (.dat (T_tally_Tally_repo z79α.2.1)) z79.2.2.1, .vec z79α.2.2 (T_deque_Cell_rep) z79.2.2.2.was.cells, .obj true z11 z12 (.dat (T_tally_Tally_repo z79α.2.2)) z79.2.2.2, .gone]) (by first | exact hB z80α S false e12 | (have q := hB z80α S false e12; simp only [cond_true, cond_false] at q; exact q)) ?_
            refine o_move rfl rfl guard_none (look_o rfl rfl) (fun _ => rfl) ?_
            apply h_endA (α := z80α) z80α
            · exact (.same (.same (.same (.same (.same (.same (.same (.same (.same (.same (.same (.same (.same .nil)))))))))))))
            · exact rfl
            · exact rfl
            · exact rfl
            · exact hB z80α (fun k => S k || Nat.beq k 6) false (or_f e12 rfl)
          · intro z80α S hc hk hp
            have e12 : S 12 = false := (not_yet (j := 12) (q := 2) hc (not_yet (j := 11) (q := 0) hc (not_yet (j := 10) (q := 0) hc (not_yet (j := 9) (q := 0) hc (not_yet (j := 8) (q := 1) hc hk rfl rfl rfl rfl) rfl rfl rfl rfl) rfl rfl rfl rfl) rfl rfl rfl rfl) rfl rfl rfl rfl)
            refine eq_H (H' := [.vec z79α.1 (T_deque_Cell_rep) z79.2.1.was.cells, .obj true z22 z23 (.dat (T_tally_Tally_repo z79α.1)) z79.2.1, .vec z79α.2.1 (T_deque_Cell_rep) z79.2.2.1.was.cells, .obj true z6 z7 (.dat (T_tally_Tally_repo z79α.2.1)) z79.2.2.1, .vec z79α.2.2 (T_deque_Cell_rep) z79.2.2.2.was.cells, .obj true z11 z12 (.dat (T_tally_Tally_repo z79α.2.2)) z79.2.2.2, .gone]) (by first | exact hB z80α S false e12 | (have q := hB z80α S false e12; simp only [cond_true, cond_false] at q; exact q)) ?_
            refine o_move rfl rfl guard_none (look_o rfl rfl) (fun _ => rfl) ?_
            apply h_endA (α := z80α) z80α
            · exact (.same (.same (.same (.same (.same (.same (.same (.same (.same (.same (.same (.same (.same .nil)))))))))))))
            · exact rfl
            · exact rfl
            · exact rfl
            · exact hB z80α (fun k => S k || Nat.beq k 7) false (or_f e12 rfl)
          · intro z80α S hc hk hp
            have e12 : S 12 = false := (not_yet (j := 12) (q := 2) hc (not_yet (j := 11) (q := 0) hc (not_yet (j := 10) (q := 0) hc (not_yet (j := 9) (q := 0) hc hk rfl rfl rfl rfl) rfl rfl rfl rfl) rfl rfl rfl rfl) rfl rfl rfl rfl)
            refine eq_H (H' := [.vec z79α.1 (T_deque_Cell_rep) z79.2.1.was.cells, .obj true z22 z23 (.dat (T_tally_Tally_repo z79α.1)) z79.2.1, .vec z79α.2.1 (T_deque_Cell_rep) z79.2.2.1.was.cells, .obj true z6 z7 (.dat (T_tally_Tally_repo z79α.2.1)) z79.2.2.1, .vec z79α.2.2 (T_deque_Cell_rep) z79.2.2.2.was.cells, .obj true z11 z12 (.dat (T_tally_Tally_repo z79α.2.2)) z79.2.2.2, .gone]) (by first | exact hB z80α S false e12 | (have q := hB z80α S false e12; simp only [cond_true, cond_false] at q; exact q)) ?_
            refine o_from (bind_eqO h_z82) ?_
            refine o_iaddr Try.underlying44 type49 rfl rfl (look_d rfl rfl (pr hp 0 rfl rfl)) (look_d rfl rfl (pr hp 1 rfl rfl)) rfl rfl (o_eqO ?_)
            apply h_endA (α := z80α) z80α
            · exact (.same (.same (.same (.same (.same (.same (.same (.same (.same (.same (.same (.same (.same .nil)))))))))))))
            · exact rfl
            · exact rfl
            · exact rfl
            · exact hB z80α (fun k => S k || Nat.beq k 8) false (or_f e12 rfl)
          · intro z80α S hc hk hp
            have e12 : S 12 = false := (not_yet (j := 12) (q := 2) hc (not_yet (j := 11) (q := 0) hc (not_yet (j := 10) (q := 0) hc hk rfl rfl rfl rfl) rfl rfl rfl rfl) rfl rfl rfl rfl)
            refine eq_H (H' := [.vec z79α.1 (T_deque_Cell_rep) z79.2.1.was.cells, .obj true z22 z23 (.dat (T_tally_Tally_repo z79α.1)) z79.2.1, .vec z79α.2.1 (T_deque_Cell_rep) z79.2.2.1.was.cells, .obj true z6 z7 (.dat (T_tally_Tally_repo z79α.2.1)) z79.2.2.1, .vec z79α.2.2 (T_deque_Cell_rep) z79.2.2.2.was.cells, .obj true z11 z12 (.dat (T_tally_Tally_repo z79α.2.2)) z79.2.2.2, .gone]) (by first | exact hB z80α S false e12 | (have q := hB z80α S false e12; simp only [cond_true, cond_false] at q; exact q)) ?_
            refine o_fptr field49_1 type4 (by decide) T_law17_Step_foc1 rfl rfl guard_none (look_d rfl rfl (pr hp 0 rfl rfl)) (fun _ => rfl) ?_
            apply h_endA (α := z80α) z80α
            · exact (.same (.same (.same (.same (.same (.same (.same (.same (.same (.same (.same (.same (.same .nil)))))))))))))
            · exact rfl
            · exact rfl
            · exact rfl
            · exact hB z80α (fun k => S k || Nat.beq k 9) false (or_f e12 rfl)
          · intro z80α S hc hk hp
            have e12 : S 12 = false := (not_yet (j := 12) (q := 2) hc (not_yet (j := 11) (q := 0) hc hk rfl rfl rfl rfl) rfl rfl rfl rfl)
            refine eq_H (H' := [.vec z79α.1 (T_deque_Cell_rep) z79.2.1.was.cells, .obj true z22 z23 (.dat (T_tally_Tally_repo z79α.1)) z79.2.1, .vec z79α.2.1 (T_deque_Cell_rep) z79.2.2.1.was.cells, .obj true z6 z7 (.dat (T_tally_Tally_repo z79α.2.1)) z79.2.2.1, .vec z79α.2.2 (T_deque_Cell_rep) z79.2.2.2.was.cells, .obj true z11 z12 (.dat (T_tally_Tally_repo z79α.2.2)) z79.2.2.2, .gone]) (by first | exact hB z80α S false e12 | (have q := hB z80α S false e12; simp only [cond_true, cond_false] at q; exact q)) ?_
            refine o_load type4 rfl rfl guard_none (look_d rfl rfl (pr hp 0 rfl rfl)) (fun _ => rfl) ?_
            apply h_endA (α := z80α) z80α
            · exact (.same (.same (.same (.same (.same (.same (.same (.same (.same (.same (.same (.same (.same .nil)))))))))))))
            · exact rfl
            · exact rfl
            · exact rfl
            · exact hB z80α (fun k => S k || Nat.beq k 10) false (or_f e12 rfl)
          · intro z80α S hc hk hp
            have e12 : S 12 = false := (not_yet (j := 12) (q := 2) hc hk rfl rfl rfl rfl)
            refine eq_H (H' := [.vec z79α.1 (T_deque_Cell_rep) z79.2.1.was.cells, .obj true z22 z23 (.dat (T_tally_Tally_repo z79α.1)) z79.2.1, .vec z79α.2.1 (T_deque_Cell_rep) z79.2.2.1.was.cells, .obj true z6 z7 (.dat (T_tally_Tally_repo z79α.2.1)) z79.2.2.1, .vec z79α.2.2 (T_deque_Cell_rep) z79.2.2.2.was.cells, .obj true z11 z12 (.dat (T_tally_Tally_repo z79α.2.2)) z79.2.2.2, .gone]) (by first | exact hB z80α S false e12 | (have q := hB z80α S false e12; simp only [cond_true, cond_false] at q; exact q)) ?_
            refine o_not rfl rfl guard_none (look_d rfl rfl (pr hp 0 rfl rfl)) (fun _ => rfl) ?_
            apply h_endA (α := z80α) z80α
            · exact (.same (.same (.same (.same (.same (.same (.same (.same (.same (.same (.same (.same (.same .nil)))))))))))))
            · exact rfl
            · exact rfl
            · exact rfl
            · exact hB z80α (fun k => S k || Nat.beq k 11) false (or_f e12 rfl)
          · intro z80α S hc hk hp
            refine eq_H (H' := [.vec z79α.1 (T_deque_Cell_rep) z79.2.1.was.cells, .obj true z22 z23 (.dat (T_tally_Tally_repo z79α.1)) z79.2.1, .vec z79α.2.1 (T_deque_Cell_rep) z79.2.2.1.was.cells, .obj true z6 z7 (.dat (T_tally_Tally_repo z79α.2.1)) z79.2.2.1, .vec z79α.2.2 (T_deque_Cell_rep) z79.2.2.2.was.cells, .obj true z11 z12 (.dat (T_tally_Tally_repo z79α.2.2)) z79.2.2.2, .gone]) (by first | exact hB z80α S false hk | (have q := hB z80α S false hk; simp only [cond_true, cond_false] at q; exact q)) ?_
            refine o_from (bind_eqO h_z83) ?_
            refine o_weak (H' := [.vec z79α.2.1 (T_deque_Cell_rep) z79.2.2.1.was.cells, .obj true z6 z7 (.dat (T_tally_Tally_repo z79α.2.1)) z79.2.2.1] ++ ([] ++ [.vec z79α.1 (T_deque_Cell_rep) z79.2.1.was.cells, .obj true z22 z23 (.dat (T_tally_Tally_repo z79α.1)) z79.2.1, .vec z79α.2.2 (T_deque_Cell_rep) z79.2.2.2.was.cells, .obj true z11 z12 (.dat (T_tally_Tally_repo z79α.2.2)) z79.2.2.2, .gone])) (sub_pick [2, 3, 0, 1, 4, 5, 6] rfl rfl) ?_
            refine o_callU rfl rfl rfl rfl rfl callable23 (looks_cons (look_d rfl rfl (pr hp 0 rfl rfl)) (fun _ => rfl) (looks_cons (look_d rfl rfl (pr hp 1 rfl rfl)) (fun _ => rfl) (looks_cons (look_d rfl rfl (pr hp 2 rfl rfl)) (fun _ => rfl) (looks_nil)))) .nil (tally_Tally_Step_ok _ _ _ z79.2.2.1 z81.At (!z82.Is)) (fun _ _ => (wr_v (wr_c wr_n))) (fun z84α => o_eqOH ?_)
            refine o_weak (H' := [.vec z84α (T_deque_Cell_rep) z83.2.was.cells, .obj true z6 z7 (.dat (T_tally_Tally_repo z84α)) z83.2, .vec z79α.1 (T_deque_Cell_rep) z79.2.1.was.cells, .obj true z22 z23 (.dat (T_tally_Tally_repo z79α.1)) z79.2.1, .vec z79α.2.2 (T_deque_Cell_rep) z79.2.2.2.was.cells, .obj true z11 z12 (.dat (T_tally_Tally_repo z79α.2.2)) z79.2.2.2, .gone]) (sub_pick [0, 1, 2, 3, 4, 5, 6] rfl rfl) ?_
            refine o_weak sub_gone ?_
            refine o_weak (H' := [.vec z79α.1 (T_deque_Cell_rep) z79.2.1.was.cells, .obj true z22 z23 (.dat (T_tally_Tally_repo z79α.1)) z79.2.1, .gone, .obj true z6 z7 (.dat (T_tally_Tally_repo z84α)) z83.2, .vec z79α.2.2 (T_deque_Cell_rep) z79.2.2.2.was.cells, .obj true z11 z12 (.dat (T_tally_Tally_repo z79α.2.2)) z79.2.2.2, .vec z84α (T_deque_Cell_rep) z83.2.was.cells]) (sub_pick [3, 4, 0, 2, 5, 6, 1] rfl rfl) ?_
            apply h_endA (α := z80α) z84α
            · exact (.same (.same (.same (.same (.same (.same (.same (.same (.same (.same (.same (.same (.same .nil)))))))))))))
            · exact rfl
            · exact rfl
            · exact rfl
            · exact hB z84α (fun k => S k || Nat.beq k 12) true (or_i rfl)
          refine den_weak (H' := [.vec z79α.1 (T_deque_Cell_rep) z79.2.1.was.cells, .obj true z22 z23 (.dat (T_tally_Tally_repo z79α.1)) z79.2.1, .obj true z6 z7 (.dat (T_tally_Tally_repo z80α)) z83.2, .vec z79α.2.2 (T_deque_Cell_rep) z79.2.2.2.was.cells, .obj true z11 z12 (.dat (T_tally_Tally_repo z79α.2.2)) z79.2.2.2, .vec z80α (T_deque_Cell_rep) z83.2.was.cells]) (sub_pick [0, 1, 3, 4, 5, 6] rfl rfl) ?_
          refine den_seq ?_
          refine den_open (fun z86 h_z86 => ?_)
          refine den_open (fun z87 h_z87 => ?_)
          refine den_open (fun z88 h_z88 => ?_)
          refine den_open (fun z90 h_z90 => ?_)
          refine den_open (fun z91 h_z91 => ?_)
          refine den_open (fun z92 h_z92 => ?_)
          have hB : ∀ (z85α : (Value × Value)) (S : Nat → Bool) (b11 b23 : Bool), S 11 = b11 → S 23 = b23 → (([(cond (S 11) (.gone) (.vec z79α.1 (T_deque_Cell_rep) z79.2.1.was.cells)), (cond (S 11) (.obj true z22 z23 (.dat (T_tally_Tally_repo z85α.1)) z88.2) (.obj true z22 z23 (.dat (T_tally_Tally_repo z79α.1)) z79.2.1)), .obj true z6 z7 (.dat (T_tally_Tally_repo z80α)) z83.2, (cond (S 23) (.gone) (.vec z79α.2.2 (T_deque_Cell_rep) z79.2.2.2.was.cells)), (cond (S 23) (.obj true z11 z12 (.dat (T_tally_Tally_repo z85α.2)) z92.2) (.obj true z11 z12 (.dat (T_tally_Tally_repo z79α.2.2)) z79.2.2.2)), .vec z80α (T_deque_Cell_rep) z83.2.was.cells, (cond (S 11) (.vec (z85α.1) (T_deque_Cell_rep) z88.2.was.cells) (.gone)), (cond (S 23) (.vec (z85α.2) (T_deque_Cell_rep) z92.2.was.cells) (.gone))] : List Go.Eng.Item)) = ([(cond b11 (.gone) (.vec z79α.1 (T_deque_Cell_rep) z79.2.1.was.cells)), (cond b11 (.obj true z22 z23 (.dat (T_tally_Tally_repo z85α.1)) z88.2) (.obj true z22 z23 (.dat (T_tally_Tally_repo z79α.1)) z79.2.1)), .obj true z6 z7 (.dat (T_tally_Tally_repo z80α)) z83.2, (cond b23 (.gone) (.vec z79α.2.2 (T_deque_Cell_rep) z79.2.2.2.was.cells)), (cond b23 (.obj true z11 z12 (.dat (T_tally_Tally_repo z85α.2)) z92.2) (.obj true z11 z12 (.dat (T_tally_Tally_repo z79α.2.2)) z79.2.2.2)), .vec z80α (T_deque_Cell_rep) z83.2.was.cells, (cond b11 (.vec (z85α.1) (T_deque_Cell_rep) z88.2.was.cells) (.gone)), (cond b23 (.vec (z85α.2) (T_deque_Cell_rep) z92.2.was.cells) (.gone))] : List Go.Eng.Item) := fun z85α S b11 b23 h11 h23 => by subst h11; subst h23; rfl
          refine den_weak sub_gone ?_
          refine den_weak sub_gone ?_
          refine den_weak (sub_pick (H' := [.vec z79α.1 (T_deque_Cell_rep) z79.2.1.was.cells, .obj true z22 z23 (.dat (T_tally_Tally_repo z79α.1)) z79.2.1, .obj true z6 z7 (.dat (T_tally_Tally_repo z80α)) z83.2, .vec z79α.2.2 (T_deque_Cell_rep) z79.2.2.2.was.cells, .obj true z11 z12 (.dat (T_tally_Tally_repo z79α.2.2)) z79.2.2.2, .vec z80α (T_deque_Cell_rep) z83.2.was.cells, .gone, .gone]) [2, 3, 4, 5, 6, 7, 0, 1] rfl rfl) ?_
          refine den_drawA (A := (Value × Value)) (H' := fun z85α => [.gone, .obj true z22 z23 (.dat (T_tally_Tally_repo z85α.1)) z88.2, .obj true z6 z7 (.dat (T_tally_Tally_repo z80α)) z83.2, .gone, .obj true z11 z12 (.dat (T_tally_Tally_repo z85α.2)) z92.2, .vec z80α (T_deque_Cell_rep) z83.2.was.cells, .vec (z85α.1) (T_deque_Cell_rep) z88.2.was.cells, .vec (z85α.2) (T_deque_Cell_rep) z92.2.was.cells]) (fun z85α => [(107, ⟨Rep.addr, (z22, z23), true⟩), (108, ⟨(T_law17_Step_rep).slice, z3, true⟩), (109, ⟨Rep.int .i64, z79.1, true⟩), (110, ⟨(T_law17_Step_rep).ptrTo, z86, true⟩), (111, ⟨(Rep.int .i64).ptrTo, z86.At, true⟩), (112, ⟨Rep.int .i64, z86.At, true⟩), (113, ⟨(T_law17_Step_rep).slice, z3, true⟩), (114, ⟨Rep.int .i64, z79.1, true⟩), (115, ⟨(T_law17_Step_rep).ptrTo, z87, true⟩), (116, ⟨(Rep.bool).ptrTo, z87.Is, true⟩), (117, ⟨Rep.bool, z87.Is, true⟩), (118, ⟨Rep.int .i64, z88.1, true⟩), (119, ⟨Rep.addr, (z11, z12), true⟩), (120, ⟨(T_law17_Step_rep).slice, z3, true⟩), (121, ⟨Rep.int .i64, z79.1, true⟩), (122, ⟨(T_law17_Step_rep).ptrTo, z90, true⟩), (123, ⟨(Rep.int .i64).ptrTo, z90.At, true⟩), (124, ⟨Rep.int .i64, z90.At, true⟩), (125, ⟨(T_law17_Step_rep).slice, z3, true⟩), (126, ⟨Rep.int .i64, z79.1, true⟩), (127, ⟨(T_law17_Step_rep).ptrTo, z91, true⟩), (128, ⟨(Rep.bool).ptrTo, z91.Is, true⟩), (129, ⟨Rep.bool, z91.Is, true⟩), (130, ⟨Rep.int .i64, z92.1, true⟩), (18, ⟨Rep.int .i64, z88.1, true⟩), (19, ⟨Rep.int .i64, z92.1, true⟩)]) (fun z85α S => [(cond (S 11) (.gone) (.vec z79α.1 (T_deque_Cell_rep) z79.2.1.was.cells)), (cond (S 11) (.obj true z22 z23 (.dat (T_tally_Tally_repo z85α.1)) z88.2) (.obj true z22 z23 (.dat (T_tally_Tally_repo z79α.1)) z79.2.1)), .obj true z6 z7 (.dat (T_tally_Tally_repo z80α)) z83.2, (cond (S 23) (.gone) (.vec z79α.2.2 (T_deque_Cell_rep) z79.2.2.2.was.cells)), (cond (S 23) (.obj true z11 z12 (.dat (T_tally_Tally_repo z85α.2)) z92.2) (.obj true z11 z12 (.dat (T_tally_Tally_repo z79α.2.2)) z79.2.2.2)), .vec z80α (T_deque_Cell_rep) z83.2.was.cells, (cond (S 11) (.vec (z85α.1) (T_deque_Cell_rep) z88.2.was.cells) (.gone)), (cond (S 23) (.vec (z85α.2) (T_deque_Cell_rep) z92.2.was.cells) (.gone))]) ((Value.slice none 0 0), (Value.slice none 0 0)) mixed (fun _ => rfl) rfl rfl (fun z85α S hS => hB z85α S true true (hS 11 (by decide)) (hS 23 (by decide))) ⟨?_, ?_, ?_, ?_, ?_, ?_, ?_, ?_, ?_, ?_, ?_, ?_, ?_, ?_, ?_, ?_, ?_, ?_, ?_, ?_, ?_, ?_, ?_, ?_, ?_, ?_, trivial⟩ (fun z85α => ?_)
          · intro z85α S hc hk hp
            have e11 : S 11 = false := (not_yet (j := 11) (q := 0) hc hk rfl rfl rfl rfl)
            have e23 : S 23 = false := (not_yet (j := 23) (q := 3) hc (not_yet (j := 11) (q := 0) hc hk rfl rfl rfl rfl) rfl rfl rfl rfl)
            refine eq_H (H' := [.vec z79α.1 (T_deque_Cell_rep) z79.2.1.was.cells, .obj true z22 z23 (.dat (T_tally_Tally_repo z79α.1)) z79.2.1, .obj true z6 z7 (.dat (T_tally_Tally_repo z80α)) z83.2, .vec z79α.2.2 (T_deque_Cell_rep) z79.2.2.2.was.cells, .obj true z11 z12 (.dat (T_tally_Tally_repo z79α.2.2)) z79.2.2.2, .vec z80α (T_deque_Cell_rep) z83.2.was.cells, .gone, .gone]) (by first | exact hB z85α S false false e11 e23 | (have q := hB z85α S false false e11 e23; simp only [cond_true, cond_false] at q; exact q)) ?_
            refine o_move rfl rfl guard_none (look_o rfl rfl) (fun _ => rfl) ?_
            apply h_endA (α := z85α) (z85α.1, z85α.2)
            · exact (.same (.same (.same (.same (.same (.same (.same (.same (.same (.same (.same (.same (.same (.same (.same (.same (.same (.same (.same (.same (.same (.same (.same (.same (.same (.same .nil))))))))))))))))))))))))))
            · exact rfl
            · exact rfl
            · exact rfl
            · exact hB (z85α.1, z85α.2) (fun k => S k || Nat.beq k 0) false false (or_f e11 rfl) (or_f e23 rfl)
          · intro z85α S hc hk hp
            have e11 : S 11 = false := (not_yet (j := 11) (q := 1) hc (not_yet (j := 5) (q := 0) hc (not_yet (j := 4) (q := 0) hc (not_yet (j := 3) (q := 0) hc hk rfl rfl rfl rfl) rfl rfl rfl rfl) rfl rfl rfl rfl) rfl rfl rfl rfl)
            have e23 : S 23 = false := (not_yet (j := 23) (q := 3) hc (not_yet (j := 11) (q := 1) hc (not_yet (j := 5) (q := 0) hc (not_yet (j := 4) (q := 0) hc (not_yet (j := 3) (q := 0) hc hk rfl rfl rfl rfl) rfl rfl rfl rfl) rfl rfl rfl rfl) rfl rfl rfl rfl) rfl rfl rfl rfl)
            refine eq_H (H' := [.vec z79α.1 (T_deque_Cell_rep) z79.2.1.was.cells, .obj true z22 z23 (.dat (T_tally_Tally_repo z79α.1)) z79.2.1, .obj true z6 z7 (.dat (T_tally_Tally_repo z80α)) z83.2, .vec z79α.2.2 (T_deque_Cell_rep) z79.2.2.2.was.cells, .obj true z11 z12 (.dat (T_tally_Tally_repo z79α.2.2)) z79.2.2.2, .vec z80α (T_deque_Cell_rep) z83.2.was.cells, .gone, .gone]) (by first | exact hB z85α S false false e11 e23 | (have q := hB z85α S false false e11 e23; simp only [cond_true, cond_false] at q; exact q)) ?_
            refine o_move rfl rfl guard_none (look_o rfl rfl) (fun _ => rfl) ?_
            apply h_endA (α := z85α) (z85α.1, z85α.2)
            · exact (.same (.same (.same (.same (.same (.same (.same (.same (.same (.same (.same (.same (.same (.same (.same (.same (.same (.same (.same (.same (.same (.same (.same (.same (.same (.same .nil))))))))))))))))))))))))))
            · exact rfl
            · exact rfl
            · exact rfl
            · exact hB (z85α.1, z85α.2) (fun k => S k || Nat.beq k 1) false false (or_f e11 rfl) (or_f e23 rfl)
          · intro z85α S hc hk hp
            have e11 : S 11 = false := (not_yet (j := 11) (q := 1) hc (not_yet (j := 5) (q := 0) hc (not_yet (j := 4) (q := 0) hc (not_yet (j := 3) (q := 1) hc hk rfl rfl rfl rfl) rfl rfl rfl rfl) rfl rfl rfl rfl) rfl rfl rfl rfl)
            have e23 : S 23 = false := (not_yet (j := 23) (q := 3) hc (not_yet (j := 11) (q := 1) hc (not_yet (j := 5) (q := 0) hc (not_yet (j := 4) (q := 0) hc (not_yet (j := 3) (q := 1) hc hk rfl rfl rfl rfl) rfl rfl rfl rfl) rfl rfl rfl rfl) rfl rfl rfl rfl) rfl rfl rfl rfl)
            refine eq_H (H' := [.vec z79α.1 (T_deque_Cell_rep) z79.2.1.was.cells, .obj true z22 z23 (.dat (T_tally_Tally_repo z79α.1)) z79.2.1, .obj true z6 z7 (.dat (T_tally_Tally_repo z80α)) z83.2, .vec z79α.2.2 (T_deque_Cell_rep) z79.2.2.2.was.cells, .obj true z11 z12 (.dat (T_tally_Tally_repo z79α.2.2)) z79.2.2.2, .vec z80α (T_deque_Cell_rep) z83.2.was.cells, .gone, .gone]) (by first | exact hB z85α S false false e11 e23 | (have q := hB z85α S false false e11 e23; simp only [cond_true, cond_false] at q; exact q)) ?_
            refine o_move rfl rfl guard_none (look_o rfl rfl) (fun _ => rfl) ?_
            apply h_endA (α := z85α) (z85α.1, z85α.2)
            · exact (.same (.same (.same (.same (.same (.same (.same (.same (.same (.same (.same (.same (.same (.same (.same (.same (.same (.same (.same (.same (.same (.same (.same (.same (.same (.same .nil))))))))))))))))))))))))))
            · exact rfl
            · exact rfl
            · exact rfl
            · exact hB (z85α.1, z85α.2) (fun k => S k || Nat.beq k 2) false false (or_f e11 rfl) (or_f e23 rfl)
          · intro z85α S hc hk hp
            have e11 : S 11 = false := (not_yet (j := 11) (q := 1) hc (not_yet (j := 5) (q := 0) hc (not_yet (j := 4) (q := 0) hc hk rfl rfl rfl rfl) rfl rfl rfl rfl) rfl rfl rfl rfl)
            have e23 : S 23 = false := (not_yet (j := 23) (q := 3) hc (not_yet (j := 11) (q := 1) hc (not_yet (j := 5) (q := 0) hc (not_yet (j := 4) (q := 0) hc hk rfl rfl rfl rfl) rfl rfl rfl rfl) rfl rfl rfl rfl) rfl rfl rfl rfl)
            refine eq_H (H' := [.vec z79α.1 (T_deque_Cell_rep) z79.2.1.was.cells, .obj true z22 z23 (.dat (T_tally_Tally_repo z79α.1)) z79.2.1, .obj true z6 z7 (.dat (T_tally_Tally_repo z80α)) z83.2, .vec z79α.2.2 (T_deque_Cell_rep) z79.2.2.2.was.cells, .obj true z11 z12 (.dat (T_tally_Tally_repo z79α.2.2)) z79.2.2.2, .vec z80α (T_deque_Cell_rep) z83.2.was.cells, .gone, .gone]) (by first | exact hB z85α S false false e11 e23 | (have q := hB z85α S false false e11 e23; simp only [cond_true, cond_false] at q; exact q)) ?_
            refine o_from (bind_eqO h_z86) ?_
            refine o_iaddr Try.underlying44 type49 rfl rfl (look_d rfl rfl (pr hp 0 rfl rfl)) (look_d rfl rfl (pr hp 1 rfl rfl)) rfl rfl (o_eqO ?_)
            apply h_endA (α := z85α) (z85α.1, z85α.2)
            · exact (.same (.same (.same (.same (.same (.same (.same (.same (.same (.same (.same (.same (.same (.same (.same (.same (.same (.same (.same (.same (.same (.same (.same (.same (.same (.same .nil))))))))))))))))))))))))))
            · exact rfl
            · exact rfl
            · exact rfl
            · exact hB (z85α.1, z85α.2) (fun k => S k || Nat.beq k 3) false false (or_f e11 rfl) (or_f e23 rfl)
          · intro z85α S hc hk hp
            have e11 : S 11 = false := (not_yet (j := 11) (q := 1) hc (not_yet (j := 5) (q := 0) hc hk rfl rfl rfl rfl) rfl rfl rfl rfl)
            have e23 : S 23 = false := (not_yet (j := 23) (q := 3) hc (not_yet (j := 11) (q := 1) hc (not_yet (j := 5) (q := 0) hc hk rfl rfl rfl rfl) rfl rfl rfl rfl) rfl rfl rfl rfl)
            refine eq_H (H' := [.vec z79α.1 (T_deque_Cell_rep) z79.2.1.was.cells, .obj true z22 z23 (.dat (T_tally_Tally_repo z79α.1)) z79.2.1, .obj true z6 z7 (.dat (T_tally_Tally_repo z80α)) z83.2, .vec z79α.2.2 (T_deque_Cell_rep) z79.2.2.2.was.cells, .obj true z11 z12 (.dat (T_tally_Tally_repo z79α.2.2)) z79.2.2.2, .vec z80α (T_deque_Cell_rep) z83.2.was.cells, .gone, .gone]) (by first | exact hB z85α S false false e11 e23 | (have q := hB z85α S false false e11 e23; simp only [cond_true, cond_false] at q; exact q)) ?_
            refine o_fptr field49_0 type2 (by decide) T_law17_Step_foc0 rfl rfl guard_none (look_d rfl rfl (pr hp 0 rfl rfl)) (fun _ => rfl) ?_
            apply h_endA (α := z85α) (z85α.1, z85α.2)
            · exact (.same (.same (.same (.same (.same (.same (.same (.same (.same (.same (.same (.same (.same (.same (.same (.same (.same (.same (.same (.same (.same (.same (.same (.same (.same (.same .nil))))))))))))))))))))))))))
            · exact rfl
            · exact rfl
            · exact rfl
            · exact hB (z85α.1, z85α.2) (fun k => S k || Nat.beq k 4) false false (or_f e11 rfl) (or_f e23 rfl)
          · intro z85α S hc hk hp
            have e11 : S 11 = false := (not_yet (j := 11) (q := 1) hc hk rfl rfl rfl rfl)
            have e23 : S 23 = false := (not_yet (j := 23) (q := 3) hc (not_yet (j := 11) (q := 1) hc hk rfl rfl rfl rfl) rfl rfl rfl rfl)
            refine eq_H (H' := [.vec z79α.1 (T_deque_Cell_rep) z79.2.1.was.cells, .obj true z22 z23 (.dat (T_tally_Tally_repo z79α.1)) z79.2.1, .obj true z6 z7 (.dat (T_tally_Tally_repo z80α)) z83.2, .vec z79α.2.2 (T_deque_Cell_rep) z79.2.2.2.was.cells, .obj true z11 z12 (.dat (T_tally_Tally_repo z79α.2.2)) z79.2.2.2, .vec z80α (T_deque_Cell_rep) z83.2.was.cells, .gone, .gone]) (by first | exact hB z85α S false false e11 e23 | (have q := hB z85α S false false e11 e23; simp only [cond_true, cond_false] at q; exact q)) ?_
            refine o_load type2 rfl rfl guard_none (look_d rfl rfl (pr hp 0 rfl rfl)) (fun _ => rfl) ?_
            apply h_endA (α := z85α) (z85α.1, z85α.2)
            · exact (.same (.same (.same (.same (.same (.same (.same (.same (.same (.same (.same (.same (.same (.same (.same (.same (.same (.same (.same (.same (.same (.same (.same (.same (.same (.same .nil))))))))))))))))))))))))))
            · exact rfl
            · exact rfl
            · exact rfl
            · exact hB (z85α.1, z85α.2) (fun k => S k || Nat.beq k 5) false false (or_f e11 rfl) (or_f e23 rfl)
          · intro z85α S hc hk hp
            have e11 : S 11 = false := (not_yet (j := 11) (q := 2) hc (not_yet (j := 10) (q := 0) hc (not_yet (j := 9) (q := 0) hc (not_yet (j := 8) (q := 0) hc hk rfl rfl rfl rfl) rfl rfl rfl rfl) rfl rfl rfl rfl) rfl rfl rfl rfl)
            have e23 : S 23 = false := (not_yet (j := 23) (q := 3) hc (not_yet (j := 11) (q := 2) hc (not_yet (j := 10) (q := 0) hc (not_yet (j := 9) (q := 0) hc (not_yet (j := 8) (q := 0) hc hk rfl rfl rfl rfl) rfl rfl rfl rfl) rfl rfl rfl rfl) rfl rfl rfl rfl) rfl rfl rfl rfl)
            refine eq_H (H' := [.vec z79α.1 (T_deque_Cell_rep) z79.2.1.was.cells, .obj true z22 z23 (.dat (T_tally_Tally_repo z79α.1)) z79.2.1, .obj true z6 z7 (.dat (T_tally_Tally_repo z80α)) z83.2, .vec z79α.2.2 (T_deque_Cell_rep) z79.2.2.2.was.cells, .obj true z11 z12 (.dat (T_tally_Tally_repo z79α.2.2)) z79.2.2.2, .vec z80α (T_deque_Cell_rep) z83.2.was.cells, .gone, .gone]) (by first | exact hB z85α S false false e11 e23 | (have q := hB z85α S false false e11 e23; simp only [cond_true, cond_false] at q; exact q)) ?_
            refine o_move rfl rfl guard_none (look_o rfl rfl) (fun _ => rfl) ?_
            apply h_endA (α := z85α) (z85α.1, z85α.2)
            · exact (.same (.same (.same (.same (.same (.same (.same (.same (.same (.same (.same (.same (.same (.same (.same (.same (.same (.same (.same (.same (.same (.same (.same (.same (.same (.same .nil))))))))))))))))))))))))))
            · exact rfl
            · exact rfl
            · exact rfl
            · exact hB (z85α.1, z85α.2) (fun k => S k || Nat.beq k 6) false false (or_f e11 rfl) (or_f e23 rfl)
          · intro z85α S hc hk hp
            have e11 : S 11 = false := (not_yet (j := 11) (q := 2) hc (not_yet (j := 10) (q := 0) hc (not_yet (j := 9) (q := 0) hc (not_yet (j := 8) (q := 1) hc hk rfl rfl rfl rfl) rfl rfl rfl rfl) rfl rfl rfl rfl) rfl rfl rfl rfl)
            have e23 : S 23 = false := (not_yet (j := 23) (q := 3) hc (not_yet (j := 11) (q := 2) hc (not_yet (j := 10) (q := 0) hc (not_yet (j := 9) (q := 0) hc (not_yet (j := 8) (q := 1) hc hk rfl rfl rfl rfl) rfl rfl rfl rfl) rfl rfl rfl rfl) rfl rfl rfl rfl) rfl rfl rfl rfl)
            refine eq_H (H' := [.vec z79α.1 (T_deque_Cell_rep) z79.2.1.was.cells, .obj true z22 z23 (.dat (T_tally_Tally_repo z79α.1)) z79.2.1, .obj true z6 z7 (.dat (T_tally_Tally_repo z80α)) z83.2, .vec z79α.2.2 (T_deque_Cell_rep) z79.2.2.2.was.cells, .obj true z11 z12 (.dat (T_tally_Tally_repo z79α.2.2)) z79.2.2.2, .vec z80α (T_deque_Cell_rep) z83.2.was.cells, .gone, .gone]) (by first | exact hB z85α S false false e11 e23 | (have q := hB z85α S false false e11 e23; simp only [cond_true, cond_false] at q; exact q)) ?_
            refine o_move rfl rfl guard_none (look_o rfl rfl) (fun _ => rfl) ?_
            apply h_endA (α := z85α) (z85α.1, z85α.2)
            · exact (.same (.same (.same (.same (.same (.same (.same (.same (.same (.same (.same (.same (.same (.same (.same (.same (.same (.same (.same (.same (.same (.same (.same (.same (.same (.same .nil))))))))))))))))))))))))))
            · exact rfl
            · exact rfl
            · exact rfl
            · exact hB (z85α.1, z85α.2) (fun k => S k || Nat.beq k 7) false false (or_f e11 rfl) (or_f e23 rfl)
          · intro z85α S hc hk hp
            have e11 : S 11 = false := (not_yet (j := 11) (q := 2) hc (not_yet (j := 10) (q := 0) hc (not_yet (j := 9) (q := 0) hc hk rfl rfl rfl rfl) rfl rfl rfl rfl) rfl rfl rfl rfl)
            have e23 : S 23 = false := (not_yet (j := 23) (q := 3) hc (not_yet (j := 11) (q := 2) hc (not_yet (j := 10) (q := 0) hc (not_yet (j := 9) (q := 0) hc hk rfl rfl rfl rfl) rfl rfl rfl rfl) rfl rfl rfl rfl) rfl rfl rfl rfl)
            refine eq_H (H' := [.vec z79α.1 (T_deque_Cell_rep) z79.2.1.was.cells, .obj true z22 z23 (.dat (T_tally_Tally_repo z79α.1)) z79.2.1, .obj true z6 z7 (.dat (T_tally_Tally_repo z80α)) z83.2, .vec z79α.2.2 (T_deque_Cell_rep) z79.2.2.2.was.cells, .obj true z11 z12 (.dat (T_tally_Tally_repo z79α.2.2)) z79.2.2.2, .vec z80α (T_deque_Cell_rep) z83.2.was.cells, .gone, .gone]) (by first | exact hB z85α S false false e11 e23 | (have q := hB z85α S false false e11 e23; simp only [cond_true, cond_false] at q; exact q)) ?_
            refine o_from (bind_eqO h_z87) ?_
            refine o_iaddr Try.underlying44 type49 rfl rfl (look_d rfl rfl (pr hp 0 rfl rfl)) (look_d rfl rfl (pr hp 1 rfl rfl)) rfl rfl (o_eqO ?_)
            apply h_endA (α := z85α) (z85α.1, z85α.2)
            · exact (.same (.same (.same (.same (.same (.same (.same (.same (.same (.same (.same (.same (.same (.same (.same (.same (.same (.same (.same (.same (.same (.same (.same (.same (.same (.same .nil))))))))))))))))))))))))))
            · exact rfl
            · exact rfl
            · exact rfl
            · exact hB (z85α.1, z85α.2) (fun k => S k || Nat.beq k 8) false false (or_f e11 rfl) (or_f e23 rfl)
          · intro z85α S hc hk hp
            have e11 : S 11 = false := (not_yet (j := 11) (q := 2) hc (not_yet (j := 10) (q := 0) hc hk rfl rfl rfl rfl) rfl rfl rfl rfl)
            have e23 : S 23 = false := (not_yet (j := 23) (q := 3) hc (not_yet (j := 11) (q := 2) hc (not_yet (j := 10) (q := 0) hc hk rfl rfl rfl rfl) rfl rfl rfl rfl) rfl rfl rfl rfl)
            refine eq_H (H' := [.vec z79α.1 (T_deque_Cell_rep) z79.2.1.was.cells, .obj true z22 z23 (.dat (T_tally_Tally_repo z79α.1)) z79.2.1, .obj true z6 z7 (.dat (T_tally_Tally_repo z80α)) z83.2, .vec z79α.2.2 (T_deque_Cell_rep) z79.2.2.2.was.cells, .obj true z11 z12 (.dat (T_tally_Tally_repo z79α.2.2)) z79.2.2.2, .vec z80α (T_deque_Cell_rep) z83.2.was.cells, .gone, .gone]) (by first | exact hB z85α S false false e11 e23 | (have q := hB z85α S false false e11 e23; simp only [cond_true, cond_false] at q; exact q)) ?_
            refine o_fptr field49_1 type4 (by decide) T_law17_Step_foc1 rfl rfl guard_none (look_d rfl rfl (pr hp 0 rfl rfl)) (fun _ => rfl) ?_
            apply h_endA (α := z85α) (z85α.1, z85α.2)
            · exact (.same (.same (.same (.same (.same (.same (.same (.same (.same (.same (.same (.same (.same (.same (.same (.same (.same (.same (.same (.same (.same (.same (.same (.same (.same (.same .nil))))))))))))))))))))))))))
            · exact rfl
            · exact rfl
            · exact rfl
            · exact hB (z85α.1, z85α.2) (fun k => S k || Nat.beq k 9) false false (or_f e11 rfl) (or_f e23 rfl)
          · intro z85α S hc hk hp
            have e11 : S 11 = false := (not_yet (j := 11) (q := 2) hc hk rfl rfl rfl rfl)
            have e23 : S 23 = false := (not_yet (j := 23) (q := 3) hc (not_yet (j := 11) (q := 2) hc hk rfl rfl rfl rfl) rfl rfl rfl rfl)
            refine eq_H (H' := [.vec z79α.1 (T_deque_Cell_rep) z79.2.1.was.cells, .obj true z22 z23 (.dat (T_tally_Tally_repo z79α.1)) z79.2.1, .obj true z6 z7 (.dat (T_tally_Tally_repo z80α)) z83.2, .vec z79α.2.2 (T_deque_Cell_rep) z79.2.2.2.was.cells, .obj true z11 z12 (.dat (T_tally_Tally_repo z79α.2.2)) z79.2.2.2, .vec z80α (T_deque_Cell_rep) z83.2.was.cells, .gone, .gone]) (by first | exact hB z85α S false false e11 e23 | (have q := hB z85α S false false e11 e23; simp only [cond_true, cond_false] at q; exact q)) ?_
            refine o_load type4 rfl rfl guard_none (look_d rfl rfl (pr hp 0 rfl rfl)) (fun _ => rfl) ?_
            apply h_endA (α := z85α) (z85α.1, z85α.2)
            · exact (.same (.same (.same (.same (.same (.same (.same (.same (.same (.same (.same (.same (.same (.same (.same (.same (.same (.same (.same (.same (.same (.same (.same (.same (.same (.same .nil))))))))))))))))))))))))))
            · exact rfl
            · exact rfl
            · exact rfl
            · exact hB (z85α.1, z85α.2) (fun k => S k || Nat.beq k 10) false false (or_f e11 rfl) (or_f e23 rfl)
          · intro z85α S hc hk hp
            have e23 : S 23 = false := (not_yet (j := 23) (q := 3) hc hk rfl rfl rfl rfl)
            refine eq_H (H' := [.vec z79α.1 (T_deque_Cell_rep) z79.2.1.was.cells, .obj true z22 z23 (.dat (T_tally_Tally_repo z79α.1)) z79.2.1, .obj true z6 z7 (.dat (T_tally_Tally_repo z80α)) z83.2, .vec z79α.2.2 (T_deque_Cell_rep) z79.2.2.2.was.cells, .obj true z11 z12 (.dat (T_tally_Tally_repo z79α.2.2)) z79.2.2.2, .vec z80α (T_deque_Cell_rep) z83.2.was.cells, .gone, .gone]) (by first | exact hB z85α S false false hk e23 | (have q := hB z85α S false false hk e23; simp only [cond_true, cond_false] at q; exact q)) ?_
            refine o_from (bind_eqO h_z88) ?_
            refine o_weak (H' := [.vec z79α.1 (T_deque_Cell_rep) z79.2.1.was.cells, .obj true z22 z23 (.dat (T_tally_Tally_repo z79α.1)) z79.2.1] ++ ([] ++ [.obj true z6 z7 (.dat (T_tally_Tally_repo z80α)) z83.2, .vec z79α.2.2 (T_deque_Cell_rep) z79.2.2.2.was.cells, .obj true z11 z12 (.dat (T_tally_Tally_repo z79α.2.2)) z79.2.2.2, .vec z80α (T_deque_Cell_rep) z83.2.was.cells, .gone, .gone])) (sub_pick [0, 1, 2, 3, 4, 5, 6, 7] rfl rfl) ?_
            refine o_callU rfl rfl rfl rfl rfl callable23 (looks_cons (look_d rfl rfl (pr hp 0 rfl rfl)) (fun _ => rfl) (looks_cons (look_d rfl rfl (pr hp 1 rfl rfl)) (fun _ => rfl) (looks_cons (look_d rfl rfl (pr hp 2 rfl rfl)) (fun _ => rfl) (looks_nil)))) .nil (tally_Tally_Step_ok _ _ _ z79.2.1 z86.At z87.Is) (fun _ _ => (wr_v (wr_c wr_n))) (fun z89α => o_eqOH ?_)
            refine o_weak (H' := [.vec z89α (T_deque_Cell_rep) z88.2.was.cells, .obj true z22 z23 (.dat (T_tally_Tally_repo z89α)) z88.2, .obj true z6 z7 (.dat (T_tally_Tally_repo z80α)) z83.2, .vec z79α.2.2 (T_deque_Cell_rep) z79.2.2.2.was.cells, .obj true z11 z12 (.dat (T_tally_Tally_repo z79α.2.2)) z79.2.2.2, .vec z80α (T_deque_Cell_rep) z83.2.was.cells, .gone, .gone]) (sub_pick [0, 1, 2, 3, 4, 5, 6, 7] rfl rfl) ?_
            refine o_weak sub_gone ?_
            refine o_weak (H' := [.gone, .obj true z22 z23 (.dat (T_tally_Tally_repo z89α)) z88.2, .obj true z6 z7 (.dat (T_tally_Tally_repo z80α)) z83.2, .vec z79α.2.2 (T_deque_Cell_rep) z79.2.2.2.was.cells, .obj true z11 z12 (.dat (T_tally_Tally_repo z79α.2.2)) z79.2.2.2, .vec z80α (T_deque_Cell_rep) z83.2.was.cells, .vec z89α (T_deque_Cell_rep) z88.2.was.cells, .gone]) (sub_pick [0, 2, 3, 4, 5, 6, 1, 8] rfl rfl) ?_
            apply h_endA (α := z85α) (z89α, z85α.2)
            · exact (.same (.same (.same (.same (.same (.same (.same (.same (.same (.same (.same (.same (.same (.same (.same (.same (.same (.same (.same (.same (.same (.same (.same (.same (.same (.same .nil))))))))))))))))))))))))))
            · exact rfl
            · exact rfl
            · exact rfl
            · exact hB (z89α, z85α.2) (fun k => S k || Nat.beq k 11) true false (or_i rfl) (or_f e23 rfl)
          · intro z85α S hc hk hp
            have e23 : S 23 = false := (not_yet (j := 23) (q := 0) hc hk rfl rfl rfl rfl)
            refine eq_H (H' := [(cond (S 11) (.gone) (.vec z79α.1 (T_deque_Cell_rep) z79.2.1.was.cells)), (cond (S 11) (.obj true z22 z23 (.dat (T_tally_Tally_repo z85α.1)) z88.2) (.obj true z22 z23 (.dat (T_tally_Tally_repo z79α.1)) z79.2.1)), .obj true z6 z7 (.dat (T_tally_Tally_repo z80α)) z83.2, .vec z79α.2.2 (T_deque_Cell_rep) z79.2.2.2.was.cells, .obj true z11 z12 (.dat (T_tally_Tally_repo z79α.2.2)) z79.2.2.2, .vec z80α (T_deque_Cell_rep) z83.2.was.cells, (cond (S 11) (.vec (z85α.1) (T_deque_Cell_rep) z88.2.was.cells) (.gone)), .gone]) (by first | exact hB z85α S (S 11) false rfl e23 | (have q := hB z85α S (S 11) false rfl e23; simp only [cond_true, cond_false] at q; exact q)) ?_
            refine o_move rfl rfl guard_none (look_o rfl rfl) (fun _ => rfl) ?_
            apply h_endA (α := z85α) (z85α.1, z85α.2)
            · exact (.same (.same (.same (.same (.same (.same (.same (.same (.same (.same (.same (.same (.same (.same (.same (.same (.same (.same (.same (.same (.same (.same (.same (.same (.same (.same .nil))))))))))))))))))))))))))
            · exact rfl
            · exact rfl
            · exact rfl
            · exact hB (z85α.1, z85α.2) (fun k => S k || Nat.beq k 12) (S 11) false (or_ne rfl) (or_f e23 rfl)
          · intro z85α S hc hk hp
            have e23 : S 23 = false := (not_yet (j := 23) (q := 1) hc (not_yet (j := 17) (q := 0) hc (not_yet (j := 16) (q := 0) hc (not_yet (j := 15) (q := 0) hc hk rfl rfl rfl rfl) rfl rfl rfl rfl) rfl rfl rfl rfl) rfl rfl rfl rfl)
            refine eq_H (H' := [(cond (S 11) (.gone) (.vec z79α.1 (T_deque_Cell_rep) z79.2.1.was.cells)), (cond (S 11) (.obj true z22 z23 (.dat (T_tally_Tally_repo z85α.1)) z88.2) (.obj true z22 z23 (.dat (T_tally_Tally_repo z79α.1)) z79.2.1)), .obj true z6 z7 (.dat (T_tally_Tally_repo z80α)) z83.2, .vec z79α.2.2 (T_deque_Cell_rep) z79.2.2.2.was.cells, .obj true z11 z12 (.dat (T_tally_Tally_repo z79α.2.2)) z79.2.2.2, .vec z80α (T_deque_Cell_rep) z83.2.was.cells, (cond (S 11) (.vec (z85α.1) (T_deque_Cell_rep) z88.2.was.cells) (.gone)), .gone]) (by first | exact hB z85α S (S 11) false rfl e23 | (have q := hB z85α S (S 11) false rfl e23; simp only [cond_true, cond_false] at q; exact q)) ?_
            refine o_move rfl rfl guard_none (look_o rfl rfl) (fun _ => rfl) ?_
            apply h_endA (α := z85α) (z85α.1, z85α.2)
            · exact (.same (.same (.same (.same (.same (.same (.same (.same (.same (.same (.same (.same (.same (.same (.same (.same (.same (.same (.same (.same (.same (.same (.same (.same (.same (.same .nil))))))))))))))))))))))))))
            · exact rfl
            · exact rfl
            · exact rfl
            · exact hB (z85α.1, z85α.2) (fun k => S k || Nat.beq k 13) (S 11) false (or_ne rfl) (or_f e23 rfl)
          · intro z85α S hc hk hp
            have e23 : S 23 = false := (not_yet (j := 23) (q := 1) hc (not_yet (j := 17) (q := 0) hc (not_yet (j := 16) (q := 0) hc (not_yet (j := 15) (q := 1) hc hk rfl rfl rfl rfl) rfl rfl rfl rfl) rfl rfl rfl rfl) rfl rfl rfl rfl)
            refine eq_H (H' := [(cond (S 11) (.gone) (.vec z79α.1 (T_deque_Cell_rep) z79.2.1.was.cells)), (cond (S 11) (.obj true z22 z23 (.dat (T_tally_Tally_repo z85α.1)) z88.2) (.obj true z22 z23 (.dat (T_tally_Tally_repo z79α.1)) z79.2.1)), .obj true z6 z7 (.dat (T_tally_Tally_repo z80α)) z83.2, .vec z79α.2.2 (T_deque_Cell_rep) z79.2.2.2.was.cells, .obj true z11 z12 (.dat (T_tally_Tally_repo z79α.2.2)) z79.2.2.2, .vec z80α (T_deque_Cell_rep) z83.2.was.cells, (cond (S 11) (.vec (z85α.1) (T_deque_Cell_rep) z88.2.was.cells) (.gone)), .gone]) (by first | exact hB z85α S (S 11) false rfl e23 | (have q := hB z85α S (S 11) false rfl e23; simp only [cond_true, cond_false] at q; exact q)) ?_
            refine o_move rfl rfl guard_none (look_o rfl rfl) (fun _ => rfl) ?_
            apply h_endA (α := z85α) (z85α.1, z85α.2)
            · exact (.same (.same (.same (.same (.same (.same (.same (.same (.same (.same (.same (.same (.same (.same (.same (.same (.same (.same (.same (.same (.same (.same (.same (.same (.same (.same .nil))))))))))))))))))))))))))
            · exact rfl
            · exact rfl
            · exact rfl
            · exact hB (z85α.1, z85α.2) (fun k => S k || Nat.beq k 14) (S 11) false (or_ne rfl) (or_f e23 rfl)
          · intro z85α S hc hk hp
            have e23 : S 23 = false := (not_yet (j := 23) (q := 1) hc (not_yet (j := 17) (q := 0) hc (not_yet (j := 16) (q := 0) hc hk rfl rfl rfl rfl) rfl rfl rfl rfl) rfl rfl rfl rfl)
            refine eq_H (H' := [(cond (S 11) (.gone) (.vec z79α.1 (T_deque_Cell_rep) z79.2.1.was.cells)), (cond (S 11) (.obj true z22 z23 (.dat (T_tally_Tally_repo z85α.1)) z88.2) (.obj true z22 z23 (.dat (T_tally_Tally_repo z79α.1)) z79.2.1)), .obj true z6 z7 (.dat (T_tally_Tally_repo z80α)) z83.2, .vec z79α.2.2 (T_deque_Cell_rep) z79.2.2.2.was.cells, .obj true z11 z12 (.dat (T_tally_Tally_repo z79α.2.2)) z79.2.2.2, .vec z80α (T_deque_Cell_rep) z83.2.was.cells, (cond (S 11) (.vec (z85α.1) (T_deque_Cell_rep) z88.2.was.cells) (.gone)), .gone]) (by first | exact hB z85α S (S 11) false rfl e23 | (have q := hB z85α S (S 11) false rfl e23; simp only [cond_true, cond_false] at q; exact q)) ?_
            refine o_from (bind_eqO h_z90) ?_
            refine o_iaddr Try.underlying44 type49 rfl rfl (look_d rfl rfl (pr hp 0 rfl rfl)) (look_d rfl rfl (pr hp 1 rfl rfl)) rfl rfl (o_eqO ?_)
            apply h_endA (α := z85α) (z85α.1, z85α.2)
            · exact (.same (.same (.same (.same (.same (.same (.same (.same (.same (.same (.same (.same (.same (.same (.same (.same (.same (.same (.same (.same (.same (.same (.same (.same (.same (.same .nil))))))))))))))))))))))))))
            · exact rfl
            · exact rfl
            · exact rfl
            · exact hB (z85α.1, z85α.2) (fun k => S k || Nat.beq k 15) (S 11) false (or_ne rfl) (or_f e23 rfl)
          · intro z85α S hc hk hp
            have e23 : S 23 = false := (not_yet (j := 23) (q := 1) hc (not_yet (j := 17) (q := 0) hc hk rfl rfl rfl rfl) rfl rfl rfl rfl)
            refine eq_H (H' := [(cond (S 11) (.gone) (.vec z79α.1 (T_deque_Cell_rep) z79.2.1.was.cells)), (cond (S 11) (.obj true z22 z23 (.dat (T_tally_Tally_repo z85α.1)) z88.2) (.obj true z22 z23 (.dat (T_tally_Tally_repo z79α.1)) z79.2.1)), .obj true z6 z7 (.dat (T_tally_Tally_repo z80α)) z83.2, .vec z79α.2.2 (T_deque_Cell_rep) z79.2.2.2.was.cells, .obj true z11 z12 (.dat (T_tally_Tally_repo z79α.2.2)) z79.2.2.2, .vec z80α (T_deque_Cell_rep) z83.2.was.cells, (cond (S 11) (.vec (z85α.1) (T_deque_Cell_rep) z88.2.was.cells) (.gone)), .gone]) (by first | exact hB z85α S (S 11) false rfl e23 | (have q := hB z85α S (S 11) false rfl e23; simp only [cond_true, cond_false] at q; exact q)) ?_
            refine o_fptr field49_0 type2 (by decide) T_law17_Step_foc0 rfl rfl guard_none (look_d rfl rfl (pr hp 0 rfl rfl)) (fun _ => rfl) ?_
            apply h_endA (α := z85α) (z85α.1, z85α.2)
            · exact (.same (.same (.same (.same (.same (.same (.same (.same (.same (.same (.same (.same (.same (.same (.same (.same (.same (.same (.same (.same (.same (.same (.same (.same (.same (.same .nil))))))))))))))))))))))))))
            · exact rfl
            · exact rfl
            · exact rfl
            · exact hB (z85α.1, z85α.2) (fun k => S k || Nat.beq k 16) (S 11) false (or_ne rfl) (or_f e23 rfl)
          · intro z85α S hc hk hp
            have e23 : S 23 = false := (not_yet (j := 23) (q := 1) hc hk rfl rfl rfl rfl)
            refine eq_H (H' := [(cond (S 11) (.gone) (.vec z79α.1 (T_deque_Cell_rep) z79.2.1.was.cells)), (cond (S 11) (.obj true z22 z23 (.dat (T_tally_Tally_repo z85α.1)) z88.2) (.obj true z22 z23 (.dat (T_tally_Tally_repo z79α.1)) z79.2.1)), .obj true z6 z7 (.dat (T_tally_Tally_repo z80α)) z83.2, .vec z79α.2.2 (T_deque_Cell_rep) z79.2.2.2.was.cells, .obj true z11 z12 (.dat (T_tally_Tally_repo z79α.2.2)) z79.2.2.2, .vec z80α (T_deque_Cell_rep) z83.2.was.cells, (cond (S 11) (.vec (z85α.1) (T_deque_Cell_rep) z88.2.was.cells) (.gone)), .gone]) (by first | exact hB z85α S (S 11) false rfl e23 | (have q := hB z85α S (S 11) false rfl e23; simp only [cond_true, cond_false] at q; exact q)) ?_
            refine o_load type2 rfl rfl guard_none (look_d rfl rfl (pr hp 0 rfl rfl)) (fun _ => rfl) ?_
            apply h_endA (α := z85α) (z85α.1, z85α.2)
            · exact (.same (.same (.same (.same (.same (.same (.same (.same (.same (.same (.same (.same (.same (.same (.same (.same (.same (.same (.same (.same (.same (.same (.same (.same (.same (.same .nil))))))))))))))))))))))))))
            · exact rfl
            · exact rfl
            · exact rfl
            · exact hB (z85α.1, z85α.2) (fun k => S k || Nat.beq k 17) (S 11) false (or_ne rfl) (or_f e23 rfl)
          · intro z85α S hc hk hp
            have e23 : S 23 = false := (not_yet (j := 23) (q := 2) hc (not_yet (j := 22) (q := 0) hc (not_yet (j := 21) (q := 0) hc (not_yet (j := 20) (q := 0) hc hk rfl rfl rfl rfl) rfl rfl rfl rfl) rfl rfl rfl rfl) rfl rfl rfl rfl)
            refine eq_H (H' := [(cond (S 11) (.gone) (.vec z79α.1 (T_deque_Cell_rep) z79.2.1.was.cells)), (cond (S 11) (.obj true z22 z23 (.dat (T_tally_Tally_repo z85α.1)) z88.2) (.obj true z22 z23 (.dat (T_tally_Tally_repo z79α.1)) z79.2.1)), .obj true z6 z7 (.dat (T_tally_Tally_repo z80α)) z83.2, .vec z79α.2.2 (T_deque_Cell_rep) z79.2.2.2.was.cells, .obj true z11 z12 (.dat (T_tally_Tally_repo z79α.2.2)) z79.2.2.2, .vec z80α (T_deque_Cell_rep) z83.2.was.cells, (cond (S 11) (.vec (z85α.1) (T_deque_Cell_rep) z88.2.was.cells) (.gone)), .gone]) (by first | exact hB z85α S (S 11) false rfl e23 | (have q := hB z85α S (S 11) false rfl e23; simp only [cond_true, cond_false] at q; exact q)) ?_
            refine o_move rfl rfl guard_none (look_o rfl rfl) (fun _ => rfl) ?_
            apply h_endA (α := z85α) (z85α.1, z85α.2)
            · exact (.same (.same (.same (.same (.same (.same (.same (.same (.same (.same (.same (.same (.same (.same (.same (.same (.same (.same (.same (.same (.same (.same (.same (.same (.same (.same .nil))))))))))))))))))))))))))
            · exact rfl
            · exact rfl
            · exact rfl
            · exact hB (z85α.1, z85α.2) (fun k => S k || Nat.beq k 18) (S 11) false (or_ne rfl) (or_f e23 rfl)
          · intro z85α S hc hk hp
            have e23 : S 23 = false := (not_yet (j := 23) (q := 2) hc (not_yet (j := 22) (q := 0) hc (not_yet (j := 21) (q := 0) hc (not_yet (j := 20) (q := 1) hc hk rfl rfl rfl rfl) rfl rfl rfl rfl) rfl rfl rfl rfl) rfl rfl rfl rfl)
            refine eq_H (H' := [(cond (S 11) (.gone) (.vec z79α.1 (T_deque_Cell_rep) z79.2.1.was.cells)), (cond (S 11) (.obj true z22 z23 (.dat (T_tally_Tally_repo z85α.1)) z88.2) (.obj true z22 z23 (.dat (T_tally_Tally_repo z79α.1)) z79.2.1)), .obj true z6 z7 (.dat (T_tally_Tally_repo z80α)) z83.2, .vec z79α.2.2 (T_deque_Cell_rep) z79.2.2.2.was.cells, .obj true z11 z12 (.dat (T_tally_Tally_repo z79α.2.2)) z79.2.2.2, .vec z80α (T_deque_Cell_rep) z83.2.was.cells, (cond (S 11) (.vec (z85α.1) (T_deque_Cell_rep) z88.2.was.cells) (.gone)), .gone]) (by first | exact hB z85α S (S 11) false rfl e23 | (have q := hB z85α S (S 11) false rfl e23; simp only [cond_true, cond_false] at q; exact q)) ?_
            refine o_move rfl rfl guard_none (look_o rfl rfl) (fun _ => rfl) ?_
            apply h_endA (α := z85α) (z85α.1, z85α.2)
            · exact (.same (.same (.same (.same (.same (.same (.same (.same (.same (.same (.same (.same (.same (.same (.same (.same (.same (.same (.same (.same (.same (.same (.same (.same (.same (.same .nil))))))))))))))))))))))))))
            · exact rfl
            · exact rfl
            · exact rfl
            · exact hB (z85α.1, z85α.2) (fun k => S k || Nat.beq k 19) (S 11) false (or_ne rfl) (or_f e23 rfl)
          · intro z85α S hc hk hp
            have e23 : S 23 = false := (not_yet (j := 23) (q := 2) hc (not_yet (j := 22) (q := 0) hc (not_yet (j := 21) (q := 0) hc hk rfl rfl rfl rfl) rfl rfl rfl rfl) rfl rfl rfl rfl)
            refine eq_H (H' := [(cond (S 11) (.gone) (.vec z79α.1 (T_deque_Cell_rep) z79.2.1.was.cells)), (cond (S 11) (.obj true z22 z23 (.dat (T_tally_Tally_repo z85α.1)) z88.2) (.obj true z22 z23 (.dat (T_tally_Tally_repo z79α.1)) z79.2.1)), .obj true z6 z7 (.dat (T_tally_Tally_repo z80α)) z83.2, .vec z79α.2.2 (T_deque_Cell_rep) z79.2.2.2.was.cells, .obj true z11 z12 (.dat (T_tally_Tally_repo z79α.2.2)) z79.2.2.2, .vec z80α (T_deque_Cell_rep) z83.2.was.cells, (cond (S 11) (.vec (z85α.1) (T_deque_Cell_rep) z88.2.was.cells) (.gone)), .gone]) (by first | exact hB z85α S (S 11) false rfl e23 | (have q := hB z85α S (S 11) false rfl e23; simp only [cond_true, cond_false] at q; exact q)) ?_
            refine o_from (bind_eqO h_z91) ?_
            refine o_iaddr Try.underlying44 type49 rfl rfl (look_d rfl rfl (pr hp 0 rfl rfl)) (look_d rfl rfl (pr hp 1 rfl rfl)) rfl rfl (o_eqO ?_)
            apply h_endA (α := z85α) (z85α.1, z85α.2)
            · exact (.same (.same (.same (.same (.same (.same (.same (.same (.same (.same (.same (.same (.same (.same (.same (.same (.same (.same (.same (.same (.same (.same (.same (.same (.same (.same .nil))))))))))))))))))))))))))
            · exact rfl
            · exact rfl
            · exact rfl
            · exact hB (z85α.1, z85α.2) (fun k => S k || Nat.beq k 20) (S 11) false (or_ne rfl) (or_f e23 rfl)
          · intro z85α S hc hk hp
            have e23 : S 23 = false := (not_yet (j := 23) (q := 2) hc (not_yet (j := 22) (q := 0) hc hk rfl rfl rfl rfl) rfl rfl rfl rfl)
            refine eq_H (H' := [(cond (S 11) (.gone) (.vec z79α.1 (T_deque_Cell_rep) z79.2.1.was.cells)), (cond (S 11) (.obj true z22 z23 (.dat (T_tally_Tally_repo z85α.1)) z88.2) (.obj true z22 z23 (.dat (T_tally_Tally_repo z79α.1)) z79.2.1)), .obj true z6 z7 (.dat (T_tally_Tally_repo z80α)) z83.2, .vec z79α.2.2 (T_deque_Cell_rep) z79.2.2.2.was.cells, .obj true z11 z12 (.dat (T_tally_Tally_repo z79α.2.2)) z79.2.2.2, .vec z80α (T_deque_Cell_rep) z83.2.was.cells, (cond (S 11) (.vec (z85α.1) (T_deque_Cell_rep) z88.2.was.cells) (.gone)), .gone]) (by first | exact hB z85α S (S 11) false rfl e23 | (have q := hB z85α S (S 11) false rfl e23; simp only [cond_true, cond_false] at q; exact q)) ?_
            refine o_fptr field49_1 type4 (by decide) T_law17_Step_foc1 rfl rfl guard_none (look_d rfl rfl (pr hp 0 rfl rfl)) (fun _ => rfl) ?_
            apply h_endA (α := z85α) (z85α.1, z85α.2)
            · exact (.same (.same (.same (.same (.same (.same (.same (.same (.same (.same (.same (.same (.same (.same (.same (.same (.same (.same (.same (.same (.same (.same (.same (.same (.same (.same .nil))))))))))))))))))))))))))
            · exact rfl
            · exact rfl
            · exact rfl
            · exact hB (z85α.1, z85α.2) (fun k => S k || Nat.beq k 21) (S 11) false (or_ne rfl) (or_f e23 rfl)
          · intro z85α S hc hk hp
            have e23 : S 23 = false := (not_yet (j := 23) (q := 2) hc hk rfl rfl rfl rfl)
            refine eq_H (H' := [(cond (S 11) (.gone) (.vec z79α.1 (T_deque_Cell_rep) z79.2.1.was.cells)), (cond (S 11) (.obj true z22 z23 (.dat (T_tally_Tally_repo z85α.1)) z88.2) (.obj true z22 z23 (.dat (T_tally_Tally_repo z79α.1)) z79.2.1)), .obj true z6 z7 (.dat (T_tally_Tally_repo z80α)) z83.2, .vec z79α.2.2 (T_deque_Cell_rep) z79.2.2.2.was.cells, .obj true z11 z12 (.dat (T_tally_Tally_repo z79α.2.2)) z79.2.2.2, .vec z80α (T_deque_Cell_rep) z83.2.was.cells, (cond (S 11) (.vec (z85α.1) (T_deque_Cell_rep) z88.2.was.cells) (.gone)), .gone]) (by first | exact hB z85α S (S 11) false rfl e23 | (have q := hB z85α S (S 11) false rfl e23; simp only [cond_true, cond_false] at q; exact q)) ?_
            refine o_load type4 rfl rfl guard_none (look_d rfl rfl (pr hp 0 rfl rfl)) (fun _ => rfl) ?_
            apply h_endA (α := z85α) (z85α.1, z85α.2)
            · exact (.same (.same (.same (.same (.same (.same (.same (.same (.same (.same (.same (.same (.same (.same (.same (.same (.same (.same (.same (.same (.same (.same (.same (.same (.same (.same .nil))))))))))))))))))))))))))
            · exact rfl
            · exact rfl
            · exact rfl
            · exact hB (z85α.1, z85α.2) (fun k => S k || Nat.beq k 22) (S 11) false (or_ne rfl) (or_f e23 rfl)
          · intro z85α S hc hk hp
            have e11 : S 11 = true := (pr hp 3 rfl rfl)
            refine eq_H (H' := [.gone, .obj true z22 z23 (.dat (T_tally_Tally_repo z85α.1)) z88.2, .obj true z6 z7 (.dat (T_tally_Tally_repo z80α)) z83.2, .vec z79α.2.2 (T_deque_Cell_rep) z79.2.2.2.was.cells, .obj true z11 z12 (.dat (T_tally_Tally_repo z79α.2.2)) z79.2.2.2, .vec z80α (T_deque_Cell_rep) z83.2.was.cells, .vec (z85α.1) (T_deque_Cell_rep) z88.2.was.cells, .gone]) (by first | exact hB z85α S true false e11 hk | (have q := hB z85α S true false e11 hk; simp only [cond_true, cond_false] at q; exact q)) ?_
            refine o_from (bind_eqO h_z92) ?_
            refine o_weak (H' := [.vec z79α.2.2 (T_deque_Cell_rep) z79.2.2.2.was.cells, .obj true z11 z12 (.dat (T_tally_Tally_repo z79α.2.2)) z79.2.2.2] ++ ([] ++ [.gone, .obj true z22 z23 (.dat (T_tally_Tally_repo z85α.1)) z88.2, .obj true z6 z7 (.dat (T_tally_Tally_repo z80α)) z83.2, .vec z80α (T_deque_Cell_rep) z83.2.was.cells, .vec (z85α.1) (T_deque_Cell_rep) z88.2.was.cells, .gone])) (sub_pick [3, 4, 0, 1, 2, 5, 6, 7] rfl rfl) ?_
            refine o_callU rfl rfl rfl rfl rfl callable23 (looks_cons (look_d rfl rfl (pr hp 0 rfl rfl)) (fun _ => rfl) (looks_cons (look_d rfl rfl (pr hp 1 rfl rfl)) (fun _ => rfl) (looks_cons (look_d rfl rfl (pr hp 2 rfl rfl)) (fun _ => rfl) (looks_nil)))) .nil (tally_Tally_Step_ok _ _ _ z79.2.2.2 z90.At z91.Is) (fun _ _ => (wr_v (wr_c wr_n))) (fun z93α => o_eqOH ?_)
            refine o_weak (H' := [.vec z93α (T_deque_Cell_rep) z92.2.was.cells, .obj true z11 z12 (.dat (T_tally_Tally_repo z93α)) z92.2, .gone, .obj true z22 z23 (.dat (T_tally_Tally_repo z85α.1)) z88.2, .obj true z6 z7 (.dat (T_tally_Tally_repo z80α)) z83.2, .vec z80α (T_deque_Cell_rep) z83.2.was.cells, .vec (z85α.1) (T_deque_Cell_rep) z88.2.was.cells, .gone]) (sub_pick [0, 1, 2, 3, 4, 5, 6, 7] rfl rfl) ?_
            refine o_weak sub_gone ?_
            refine o_weak (H' := [.gone, .obj true z22 z23 (.dat (T_tally_Tally_repo z85α.1)) z88.2, .obj true z6 z7 (.dat (T_tally_Tally_repo z80α)) z83.2, .gone, .obj true z11 z12 (.dat (T_tally_Tally_repo z93α)) z92.2, .vec z80α (T_deque_Cell_rep) z83.2.was.cells, .vec (z85α.1) (T_deque_Cell_rep) z88.2.was.cells, .vec z93α (T_deque_Cell_rep) z92.2.was.cells]) (sub_pick [3, 4, 5, 0, 2, 6, 7, 1] rfl rfl) ?_
            apply h_endA (α := z85α) (z85α.1, z93α)
            · exact (.same (.same (.same (.same (.same (.same (.same (.same (.same (.same (.same (.same (.same (.same (.same (.same (.same (.same (.same (.same (.same (.same (.same (.same (.same (.same .nil))))))))))))))))))))))))))
            · exact rfl
            · exact rfl
            · exact rfl
            · exact hB (z85α.1, z93α) (fun k => S k || Nat.beq k 23) true true (or_t e11) (or_i rfl)
          · intro z85α S hc hk hp
            have e11 : S 11 = true := (pr hp 0 rfl rfl)
            have e23 : S 23 = true := (pr hp 1 rfl rfl)
            refine eq_H (H' := [.gone, .obj true z22 z23 (.dat (T_tally_Tally_repo z85α.1)) z88.2, .obj true z6 z7 (.dat (T_tally_Tally_repo z80α)) z83.2, .gone, .obj true z11 z12 (.dat (T_tally_Tally_repo z85α.2)) z92.2, .vec z80α (T_deque_Cell_rep) z83.2.was.cells, .vec (z85α.1) (T_deque_Cell_rep) z88.2.was.cells, .vec (z85α.2) (T_deque_Cell_rep) z92.2.was.cells]) (by first | exact hB z85α S true true e11 e23 | (have q := hB z85α S true true e11 e23; simp only [cond_true, cond_false] at q; exact q)) ?_
            refine o_assign rfl rfl guard_none (look_d rfl rfl (pr hp 0 rfl rfl)) (fun _ => rfl) ?_
            apply h_endA (α := z85α) (z85α.1, z85α.2)
            · exact (.same (.same (.same (.same (.same (.same (.same (.same (.same (.same (.same (.same (.same (.same (.same (.same (.same (.same (.same (.same (.same (.same (.same (.same (.same (.same .nil))))))))))))))))))))))))))
            · exact rfl
            · exact rfl
            · exact rfl
            · exact hB (z85α.1, z85α.2) (fun k => S k || Nat.beq k 24) true true (or_t e11) (or_t e23)
          · intro z85α S hc hk hp
            have e11 : S 11 = true := (pr hp 13 rfl rfl)
            have e23 : S 23 = true := (pr hp 0 rfl rfl)
            refine eq_H (H' := [.gone, .obj true z22 z23 (.dat (T_tally_Tally_repo z85α.1)) z88.2, .obj true z6 z7 (.dat (T_tally_Tally_repo z80α)) z83.2, .gone, .obj true z11 z12 (.dat (T_tally_Tally_repo z85α.2)) z92.2, .vec z80α (T_deque_Cell_rep) z83.2.was.cells, .vec (z85α.1) (T_deque_Cell_rep) z88.2.was.cells, .vec (z85α.2) (T_deque_Cell_rep) z92.2.was.cells]) (by first | exact hB z85α S true true e11 e23 | (have q := hB z85α S true true e11 e23; simp only [cond_true, cond_false] at q; exact q)) ?_
            refine o_assign rfl rfl guard_none (look_d rfl rfl (pr hp 0 rfl rfl)) (fun _ => rfl) ?_
            apply h_endA (α := z85α) (z85α.1, z85α.2)
            · exact (.same (.same (.same (.same (.same (.same (.same (.same (.same (.same (.same (.same (.same (.same (.same (.same (.same (.same (.same (.same (.same (.same (.same (.same (.same (.same .nil))))))))))))))))))))))))))
            · exact rfl
            · exact rfl
            · exact rfl
            · exact hB (z85α.1, z85α.2) (fun k => S k || Nat.beq k 25) true true (or_t e11) (or_t e23)
          refine den_weak (H' := [.obj true z22 z23 (.dat (T_tally_Tally_repo z85α.1)) z88.2, .obj true z6 z7 (.dat (T_tally_Tally_repo z80α)) z83.2, .obj true z11 z12 (.dat (T_tally_Tally_repo z85α.2)) z92.2, .vec z80α (T_deque_Cell_rep) z83.2.was.cells, .vec z85α.1 (T_deque_Cell_rep) z88.2.was.cells, .vec z85α.2 (T_deque_Cell_rep) z92.2.was.cells]) (sub_pick [1, 2, 4, 5, 6, 7] rfl rfl) ?_
          refine den_seq ?_
          refine den_region rfl ?_
          refine o_move rfl rfl guard_none (look_tmp rfl) (fun _ => rfl) ?_
          refine o_move rfl rfl guard_none (look_tmp rfl) (fun _ => rfl) ?_
          refine o_neq rfl rfl guard_none (look_tmp rfl) (look_tmp rfl) (fun _ => rfl) (fun _ => rfl) ?_
          refine o_move rfl rfl guard_none (look_tmp rfl) (fun _ => rfl) ?_
          refine o_move rfl rfl (guard_some rfl rfl rfl) (look_tmp rfl) (fun _ => rfl) ?_
          refine o_weak (H' := [] ++ ([.vec z85α.1 (T_deque_Cell_rep) z88.2.was.cells, .obj true z22 z23 (.dat (T_tally_Tally_repo z85α.1)) z88.2] ++ [.obj true z6 z7 (.dat (T_tally_Tally_repo z80α)) z83.2, .obj true z11 z12 (.dat (T_tally_Tally_repo z85α.2)) z92.2, .vec z80α (T_deque_Cell_rep) z83.2.was.cells, .vec z85α.2 (T_deque_Cell_rep) z92.2.was.cells])) (sub_pick [4, 0, 1, 2, 3, 5] rfl rfl) ?_
          refine o_callX (its := []) (0 : Int) () rfl rfl rfl rfl (guard_some rfl rfl rfl) callable24 (looks_cons (look_tmp rfl) (fun h => h) (looks_nil)) (.vec (.cons .nil)) (tally_Tally_Cells_ok _ _ _ z88.2) (fun _ _ => wr_n) ?_ (fun z95α z94 => ?_)
          · exact fun _ => rfl
          refine o_weak (H' := [.vec z85α.1 (T_deque_Cell_rep) z88.2.was.cells, .obj true z22 z23 (.dat (T_tally_Tally_repo z85α.1)) z88.2, .obj true z6 z7 (.dat (T_tally_Tally_repo z80α)) z83.2, .obj true z11 z12 (.dat (T_tally_Tally_repo z85α.2)) z92.2, .vec z80α (T_deque_Cell_rep) z83.2.was.cells, .vec z85α.2 (T_deque_Cell_rep) z92.2.was.cells]) (sub_pick [0, 1, 2, 3, 4, 5] rfl rfl) ?_
          refine o_move rfl rfl (guard_some rfl rfl rfl) (look_tmp rfl) (fun _ => rfl) ?_
          refine o_weak (H' := [] ++ ([.vec z85α.2 (T_deque_Cell_rep) z92.2.was.cells, .obj true z11 z12 (.dat (T_tally_Tally_repo z85α.2)) z92.2] ++ [.vec z85α.1 (T_deque_Cell_rep) z88.2.was.cells, .obj true z22 z23 (.dat (T_tally_Tally_repo z85α.1)) z88.2, .obj true z6 z7 (.dat (T_tally_Tally_repo z80α)) z83.2, .vec z80α (T_deque_Cell_rep) z83.2.was.cells])) (sub_pick [5, 3, 0, 1, 2, 4] rfl rfl) ?_
          refine o_callX (its := []) (0 : Int) () rfl rfl rfl rfl (guard_some rfl rfl rfl) callable24 (looks_cons (look_tmp rfl) (fun h => h) (looks_nil)) (.vec (.cons .nil)) (tally_Tally_Cells_ok _ _ _ z92.2) (fun _ _ => wr_n) ?_ (fun z97α z96 => ?_)
          · exact fun _ => rfl
          refine o_weak (H' := [.vec z85α.2 (T_deque_Cell_rep) z92.2.was.cells, .obj true z11 z12 (.dat (T_tally_Tally_repo z85α.2)) z92.2, .vec z85α.1 (T_deque_Cell_rep) z88.2.was.cells, .obj true z22 z23 (.dat (T_tally_Tally_repo z85α.1)) z88.2, .obj true z6 z7 (.dat (T_tally_Tally_repo z80α)) z83.2, .vec z80α (T_deque_Cell_rep) z83.2.was.cells]) (sub_pick [0, 1, 2, 3, 4, 5] rfl rfl) ?_
          refine o_neq rfl rfl (guard_some rfl rfl rfl) (look_tmp rfl) (look_tmp rfl) (fun h => h) (fun h => h) ?_
          refine o_pick rfl rfl guard_none (look_tmp rfl) look_bool (look_tmp rfl) (fun _ => rfl) (fun _ _ => rfl) (fun h1 h2 => pick_f ((fun _ => rfl) h1) h2) ?_
          refine o_end ?_
          refine den_cond (look_tmp rfl) ?_ ?_
          · refine den_seq ?_
            refine den_region rfl ?_
            refine o_assign rfl rfl guard_none look_bool (fun _ => rfl) ?_
            refine o_end ?_
            refine den_code_ret ?_
            refine dene_ret ?_
            refine dene_loopA (by simp) ?_
            refine dene_ret ?_
            refine dene_both (by simp) ?_
            refine dene_ret ?_
            exact dene_res (res1 rfl (rv_tmp rfl))
          · refine den_skip ?_
            refine den_blkend ?_
            refine den_region rfl ?_
            refine o_move rfl rfl guard_none (look_tmp rfl) (fun _ => rfl) ?_
            refine o_add rfl rfl guard_none (look_tmp rfl) (look_int rfl) (fun _ => rfl) (fun _ => rfl) ?_
            refine o_assign rfl rfl guard_none (look_tmp rfl) (fun _ => rfl) ?_
            refine o_end ?_
            refine den_nextA (z85α.1, z80α, z85α.2) ((Sub.trans (sub_pick [2, 3, 5, 4, 0, 1] rfl rfl) (sub_env (sube_cons rfl (sube_cons rfl (sube_cons rfl (sube_cons rfl (sube_cons rfl (sube_nil)))))))))
        · refine den_code_exit ?_
          refine dene_out rfl ?_
          refine dene_loopA (by simp) ?_
          refine dene_to rfl ?_
          refine den_endl ((Sub.trans (sub_pick [] rfl rfl) (sub_env (sube_nil))))
      refine den_seq ?_
      refine den_region rfl ?_
      refine o_assign rfl rfl guard_none look_nilp (fun _ => rfl) ?_
      refine o_end ?_
      refine den_seq ?_
      refine den_region rfl ?_
      refine o_weak (sub_nilvec (R := T_deque_Cell_rep) rfl) ?_
      refine o_build (R := T_tally_Tally_repo0 (Value.slice none 0 0)) (f := T_tally_Tally_tupo) (y := (⟨0, 0, false, T_deque_Deque_zero⟩ : T_tally_Tally)) shape53 rfl rfl rfl rfl guard_none (bld_zero (z_int rfl) (bld_zero (z_int rfl) (bld_zero (z_bool rfl) (bld_zero (z_iso (z_cons (z_isv rfl) (z_cons (z_int rfl) (z_cons (z_int rfl) z_nil0))) rfl) (bld_nil))))) ?_
      refine o_box rfl rfl (look_tmp rfl) rfl (fun z62 => ?_)
      refine o_assign rfl rfl guard_none (look_tmp rfl) (fun _ => rfl) ?_
      refine o_end ?_
      refine den_seq ?_
      refine den_region rfl ?_
      refine o_move rfl rfl guard_none (look_tmp rfl) (fun _ => rfl) ?_
      refine o_call rfl rfl rfl callable23 (looks_cons (look_tmp rfl) (fun _ => rfl) (looks_cons (look_int rfl) (fun _ => rfl) (looks_cons look_bool (fun _ => rfl) (looks_nil)))) (tally_Tally_Step_n0_ok _ _) (fun z63 => ?_)
      refine o_eql rfl rfl guard_none (look_tmp rfl) (look_int rfl) (fun _ => rfl) (fun _ => rfl) ?_
      refine o_move rfl rfl guard_none (look_tmp rfl) (fun _ => rfl) ?_
      refine o_move rfl rfl (guard_some rfl rfl rfl) (look_tmp rfl) (fun _ => rfl) ?_
      refine o_callg rfl rfl rfl (guard_some rfl rfl rfl) callable24 (looks_cons (look_tmp rfl) (fun h => h) (looks_nil)) (tally_Tally_Cells_n0_ok) (fun z64 => ?_)
      refine o_eql rfl rfl (guard_some rfl rfl rfl) (look_tmp rfl) (look_int rfl) (fun h => h) (fun _ => rfl) ?_
      refine o_pick rfl rfl guard_none (look_tmp rfl) (look_tmp rfl) look_bool (fun _ => rfl) (fun h1 h2 => pick_t ((fun _ => rfl) h1) h2) (fun _ _ => rfl) ?_
      refine o_move rfl rfl guard_none (look_tmp rfl) (fun _ => rfl) ?_
      refine o_move rfl rfl (guard_some rfl rfl rfl) (look_tmp rfl) (fun _ => rfl) ?_
      refine o_callg rfl rfl rfl (guard_some rfl rfl rfl) callable27 (looks_cons (look_tmp rfl) (fun h => h) (looks_nil)) (tally_Tally_Clone_n0_ok) (fun z65 => ?_)
      refine o_neql Try.underlying39 rfl rfl (guard_some rfl rfl rfl) (look_tmp rfl) (fun h => h) ?_
      refine o_pick rfl rfl guard_none (look_tmp rfl) (look_tmp rfl) look_bool (fun _ => rfl) (fun h1 h2 => pick_t ((fun _ => rfl) h1) h2) (fun _ _ => rfl) ?_
      refine o_move rfl rfl guard_none (look_tmp rfl) (fun _ => rfl) ?_
      refine o_move rfl rfl (guard_some rfl rfl rfl) (look_tmp rfl) (fun _ => rfl) ?_
      refine o_weak (H' := [.obj true z62 0 (.dat (T_tally_Tally_repo (Value.slice none 0 0))) (⟨0, 0, false, T_deque_Deque_zero⟩ : T_tally_Tally), .vec (Value.slice none 0 0) (T_deque_Cell_rep) ([] : List T_deque_Cell)]) (sub_pick [0, 1] rfl rfl) ?_
      refine o_weak (sub_redat ({ (⟨0, 0, false, T_deque_Deque_zero⟩ : T_tally_Tally) with was := { T_deque_Deque_zero with cells := ([] : List T_deque_Cell) } }) (fun _ _ _ h => h)) ?_
      refine o_weak (H' := [.vec (Value.slice none 0 0) (T_deque_Cell_rep) ([] : List T_deque_Cell), .obj true z62 0 (.dat (T_tally_Tally_repo (Value.slice none 0 0))) ({ (⟨0, 0, false, T_deque_Deque_zero⟩ : T_tally_Tally) with was := { T_deque_Deque_zero with cells := ([] : List T_deque_Cell) } })] ++ ([] ++ [])) (sub_pick [1, 0] rfl rfl) ?_
      refine o_callX (its := [.vec (Value.slice none 0 0) (T_deque_Cell_rep) ([] : List T_deque_Cell), .obj true z62 0 (.dat (T_tally_Tally_repo (Value.slice none 0 0))) ({ (⟨0, 0, false, T_deque_Deque_zero⟩ : T_tally_Tally) with was := { T_deque_Deque_zero with cells := ([] : List T_deque_Cell) } })]) ((0, { (⟨0, 0, false, T_deque_Deque_zero⟩ : T_tally_Tally) with was := { T_deque_Deque_zero with cells := ([] : List T_deque_Cell) } }) : (Int × T_tally_Tally)) (Value.slice none 0 0) rfl rfl rfl rfl (guard_some rfl rfl rfl) callable23 (looks_cons (look_tmp rfl) (fun h => h) (looks_cons (look_int rfl) (fun _ => rfl) (looks_cons look_bool (fun _ => rfl) (looks_nil)))) .nil (tally_Tally_Step_ok _ _ _ ({ (⟨0, 0, false, T_deque_Deque_zero⟩ : T_tally_Tally) with was := { T_deque_Deque_zero with cells := ([] : List T_deque_Cell) } }) 0 true) (fun _ _ => (wr_v (wr_c wr_n))) ?_ (fun z67α z66 => ?_)
      · exact fun _ => rfl
      refine o_weak (H' := [.vec z67α (T_deque_Cell_rep) z66.2.was.cells, .obj true z62 0 (.dat (T_tally_Tally_repo z67α)) z66.2]) (sub_pick [0, 1] rfl rfl) ?_
      refine o_eql rfl rfl (guard_some rfl rfl rfl) (look_tmp rfl) (look_int rfl) (fun h => h) (fun _ => rfl) ?_
      refine o_pick rfl rfl guard_none (look_tmp rfl) (look_tmp rfl) look_bool (fun _ => rfl) (fun h1 h2 => pick_t ((fun _ => rfl) h1) h2) (fun _ _ => rfl) ?_
      refine o_move rfl rfl guard_none (look_tmp rfl) (fun _ => rfl) ?_
      refine o_move rfl rfl (guard_some rfl rfl rfl) (look_tmp rfl) (fun _ => rfl) ?_
      refine o_weak (H' := [] ++ ([.vec z67α (T_deque_Cell_rep) z66.2.was.cells, .obj true z62 0 (.dat (T_tally_Tally_repo z67α)) z66.2] ++ [])) (sub_pick [0, 1] rfl rfl) ?_
      refine o_callX (its := []) (0 : Int) () rfl rfl rfl rfl (guard_some rfl rfl rfl) callable24 (looks_cons (look_tmp rfl) (fun h => h) (looks_nil)) (.vec (.cons .nil)) (tally_Tally_Cells_ok _ _ _ z66.2) (fun _ _ => wr_n) ?_ (fun z70α z69 => ?_)
      · exact fun _ => rfl
      refine o_weak (H' := [.vec z67α (T_deque_Cell_rep) z66.2.was.cells, .obj true z62 0 (.dat (T_tally_Tally_repo z67α)) z66.2]) (sub_pick [0, 1] rfl rfl) ?_
      refine o_eql rfl rfl (guard_some rfl rfl rfl) (look_tmp rfl) (look_int rfl) (fun h => h) (fun _ => rfl) ?_
      refine o_pick rfl rfl guard_none (look_tmp rfl) (look_tmp rfl) look_bool (fun _ => rfl) (fun h1 h2 => pick_t ((fun _ => rfl) h1) h2) (fun _ _ => rfl) ?_
      refine o_move rfl rfl guard_none (look_tmp rfl) (fun _ => rfl) ?_
      refine o_move rfl rfl (guard_some rfl rfl rfl) (look_tmp rfl) (fun _ => rfl) ?_
      refine o_weak (H' := [] ++ ([.vec z67α (T_deque_Cell_rep) z66.2.was.cells, .obj true z62 0 (.dat (T_tally_Tally_repo z67α)) z66.2] ++ [])) (sub_pick [0, 1] rfl rfl) ?_
      refine o_callX (its := []) (none : (Option T_tally_Tally)) ((0, 0), (Value.slice none 0 0)) rfl rfl rfl rfl (guard_some rfl rfl rfl) callable27 (looks_cons (look_tmp rfl) (fun h => h) (looks_nil)) (.vec (.cons .nil)) (tally_Tally_Clone_ok _ _ _ z66.2) (fun _ _ => (wr_ol (fun _ => (wr_v (wr_c wr_n))) wr_n)) ?_ (fun z72α z71 => ?_)
      · exact fun _ => rfl
      obtain ⟨⟨z73, z74⟩, z75⟩ := z72α
      rcases z71 with _ | z76
      · refine o_weak (H' := [.vec z67α (T_deque_Cell_rep) z66.2.was.cells, .obj true z62 0 (.dat (T_tally_Tally_repo z67α)) z66.2]) (sub_pick [0, 1] rfl rfl) ?_
        refine o_asnil ?_
        refine o_optn ?_
        refine o_neql Try.underlying39 rfl rfl (guard_some rfl rfl rfl) (look_tmp rfl) (fun h => h) ?_
        refine o_pick rfl rfl guard_none (look_tmp rfl) (look_tmp rfl) look_bool (fun _ => rfl) (fun h1 h2 => pick_t ((fun _ => rfl) h1) h2) (fun _ _ => rfl) ?_
        refine o_assign rfl rfl guard_none (look_tmp rfl) (fun _ => rfl) ?_
        refine o_lt (fun z77 => ?_)
        refine o_end ?_
        refine den_code_ret ?_
        exact dene_res (res1 rfl (rv_tmp rfl))
      · refine o_weak (H' := [.vec z75 (T_deque_Cell_rep) z76.was.cells, .obj true z73 z74 (.dat (T_tally_Tally_repo z75)) z76, .vec z67α (T_deque_Cell_rep) z66.2.was.cells, .obj true z62 0 (.dat (T_tally_Tally_repo z67α)) z66.2]) (sub_pick [0, 1, 2, 3] rfl rfl) ?_
        refine o_asptr ?_
        refine o_opts ?_
        refine o_peql Try.underlying39 rfl rfl (guard_some rfl rfl rfl) (look_tmp rfl) (fun h => h) ?_
        refine o_pick rfl rfl guard_none (look_tmp rfl) (look_tmp rfl) look_bool (fun _ => rfl) (fun h1 h2 => pick_t ((fun _ => rfl) h1) h2) (fun _ _ => rfl) ?_
        refine o_assign rfl rfl guard_none (look_tmp rfl) (fun _ => rfl) ?_
        refine o_lt (fun z78 => ?_)
        refine o_end ?_
        refine den_code_ret ?_
        exact dene_res (res1 rfl (rv_tmp rfl))

end Go.Proofs.Ytlikbfnaihccmaa.M
