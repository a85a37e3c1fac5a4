/- That the Go functions answer as the plain ones: written by gen2.py. -/
import Derived.Test.YtijfebipalhhjaaOks1
namespace Go.Proofs.Ytijfebipalhhjaa.M
open Go.Eng Go
set_option linter.unusedVariables false

set_option maxHeartbeats 1000000 in
theorem law33_step_ok (blk0 : Nat) (off0 : Nat) (val0_0 : Value) (val0_1 : Value) (val0_2 : Value) (w_0 : T_wall_Wall) (l_1 : (List T_wall_Owner)) (m_2 : (List T_law33_sight)) (x_3 : T_law33_Op) : FunOkI Try.prog 62 [⟨.addr, (blk0, off0), true⟩, ⟨(T_wall_Owner_rep).slice, l_1, true⟩, ⟨(T_law33_sight_rep).slice, m_2, true⟩, ⟨T_law33_Op_rep, x_3, true⟩] [.obj true 0 0 (mrep val0_0 (Rep.str) (T_wall_class_rep)) w_0.of, .obj true 0 0 (mrep val0_1 (T_wall_sight_rep) (Rep.int .i64)) w_0.seen, .obj true 0 0 (mrep val0_2 (T_wall_share_rep) (Rep.int .i64)) w_0.has, .obj true blk0 off0 (.dat (T_wall_Wall_repo val0_0 val0_1 val0_2)) w_0] (law33_step w_0 l_1 m_2 x_3) (Rep.pair ((T_law33_sight_rep).slice) (Rep.bool)) (fun (α : (Value × Value × Value)) (y : ((List T_law33_sight) × Bool × T_wall_Wall)) => (y.1, y.2.1)) (fun α y => [.obj true 0 0 (mrep α.1 (Rep.str) (T_wall_class_rep)) y.2.2.of, .obj true 0 0 (mrep α.2.1 (T_wall_sight_rep) (Rep.int .i64)) y.2.2.seen, .obj true 0 0 (mrep α.2.2 (T_wall_share_rep) (Rep.int .i64)) y.2.2.has, .obj true blk0 off0 (.dat (T_wall_Wall_repo α.1 α.2.1 α.2.2)) y.2.2]) := by
  refine fun_okI Try.func62 rfl Try.ntmps62 rfl (all_cons rfl (all_cons rfl (all_cons rfl (all_cons rfl all_nil)))) (fun w0 ok0 M => ?_)
  refine den_seq ?_
  refine den_region rfl ?_
  refine o_box rfl rfl (look_tmp rfl) rfl (fun z1 => ?_)
  refine o_assign rfl rfl guard_none look_nil1 (fun _ => rfl) ?_
  refine o_assign rfl rfl guard_none look_bool (fun _ => rfl) ?_
  refine o_end ?_
  refine den_seq ?_
  refine den_region rfl ?_
  refine o_assign rfl rfl guard_none look_nil1 (fun _ => rfl) ?_
  refine o_end ?_
  refine den_seq ?_
  refine den_seq ?_
  refine den_region rfl ?_
  refine o_faddr field68_0 type3 (by decide) rfl rfl guard_none (look_tmp rfl) (fun _ => rfl) ?_
  refine o_oloadi 0 rfl type3 T_law33_Op_foc0 rfl guard_none (look_tmp rfl) (fun _ => rfl) ?_
  refine o_eql rfl rfl guard_none (look_tmp rfl) (look_int rfl) (fun _ => rfl) (fun _ => rfl) ?_
  refine o_end ?_
  refine den_cond (look_tmp rfl) ?_ ?_
  · refine den_seq ?_
    refine den_open (fun z2 h_z2 => ?_)
    refine den_open (fun z4 h_z4 => ?_)
    refine den_draw [(17, ⟨(T_law33_sight_rep).slice, m_2, true⟩), (18, ⟨Rep.addr, (blk0, off0), true⟩), (19, ⟨Rep.addr, (z1, 0 + 1), true⟩), (20, ⟨Rep.str, x_3.Who, true⟩), (21, ⟨Rep.addr, (z1, 0 + 2), true⟩), (22, ⟨Rep.str, x_3.Owner, true⟩), (23, ⟨Rep.bool, z2, true⟩), (24, ⟨(T_wall_Owner_rep).slice, l_1, true⟩), (25, ⟨(T_law33_sight_rep).slice, m_2, true⟩), (26, ⟨T_law33_Op_rep, x_3, true⟩), (27, ⟨Rep.bool, z4, true⟩), (28, ⟨Rep.bool, z2 == z4, true⟩), (8, ⟨(T_law33_sight_rep).slice, m_2, true⟩), (9, ⟨Rep.bool, z2 == z4, true⟩)] mixed rfl rfl ⟨?_, ?_, ?_, ?_, ?_, ?_, ?_, ?_, ?_, ?_, ?_, ?_, ?_, ?_, trivial⟩ ?_
    · intro S hc hk hp
      refine o_move rfl rfl guard_none (look_o rfl rfl) (fun _ => rfl) ?_
      exact d_end rfl rfl rfl
    · intro S hc hk hp
      refine o_move rfl rfl guard_none (look_o rfl rfl) (fun _ => rfl) ?_
      exact d_end rfl rfl rfl
    · intro S hc hk hp
      refine o_faddr field68_1 type9 (by decide) rfl rfl guard_none (look_o rfl rfl) (fun _ => rfl) ?_
      exact d_end rfl rfl rfl
    · intro S hc hk hp
      refine o_oloadi 0 rfl type9 T_law33_Op_foc1 rfl guard_none (look_d rfl rfl (pr hp 0 rfl rfl)) (fun _ => rfl) ?_
      exact d_end rfl rfl rfl
    · intro S hc hk hp
      refine o_faddr field68_2 type9 (by decide) rfl rfl guard_none (look_o rfl rfl) (fun _ => rfl) ?_
      exact d_end rfl rfl rfl
    · intro S hc hk hp
      refine o_oloadi 0 rfl type9 T_law33_Op_foc2 rfl guard_none (look_d rfl rfl (pr hp 0 rfl rfl)) (fun _ => rfl) ?_
      exact d_end rfl rfl rfl
    · intro S hc hk hp
      refine o_from (bind_eqO h_z2) ?_
      refine o_weak (H' := [] ++ ([.obj true 0 0 (mrep val0_0 (Rep.str) (T_wall_class_rep)) w_0.of, .obj true 0 0 (mrep val0_1 (T_wall_sight_rep) (Rep.int .i64)) w_0.seen, .obj true 0 0 (mrep val0_2 (T_wall_share_rep) (Rep.int .i64)) w_0.has, .obj true blk0 off0 (.dat (T_wall_Wall_repo val0_0 val0_1 val0_2)) w_0] ++ [.obj true z1 0 (.dat T_law33_Op_rep) x_3])) (sub_pick [1, 2, 3, 4, 0] rfl rfl) ?_
      refine o_callU rfl rfl rfl rfl rfl callable38 (looks_cons (look_d rfl rfl (pr hp 0 rfl rfl)) (fun _ => rfl) (looks_cons (look_d rfl rfl (pr hp 1 rfl rfl)) (fun _ => rfl) (looks_cons (look_d rfl rfl (pr hp 2 rfl rfl)) (fun _ => rfl) (looks_nil)))) (.cons (.cons (.cons (.cons .nil)))) (wall_Wall_May_ok _ _ _ _ _ w_0 x_3.Who x_3.Owner) (fun _ _ => wr_n) (fun _ => o_eqOH ?_)
      refine o_weak (H' := [.obj true z1 0 (.dat T_law33_Op_rep) x_3, .obj true 0 0 (mrep val0_0 (Rep.str) (T_wall_class_rep)) w_0.of, .obj true 0 0 (mrep val0_1 (T_wall_sight_rep) (Rep.int .i64)) w_0.seen, .obj true 0 0 (mrep val0_2 (T_wall_share_rep) (Rep.int .i64)) w_0.has, .obj true blk0 off0 (.dat (T_wall_Wall_repo val0_0 val0_1 val0_2)) w_0]) (sub_pick [4, 0, 1, 2, 3] rfl rfl) ?_
      exact d_end rfl rfl rfl
    · intro S hc hk hp
      refine o_move rfl rfl guard_none (look_o rfl rfl) (fun _ => rfl) ?_
      exact d_end rfl rfl rfl
    · intro S hc hk hp
      refine o_move rfl rfl guard_none (look_o rfl rfl) (fun _ => rfl) ?_
      exact d_end rfl rfl rfl
    · intro S hc hk hp
      refine o_oloadi 0 rfl type68 foc_self rfl guard_none (look_o rfl rfl) (fun _ => rfl) ?_
      exact d_end rfl rfl rfl
    · intro S hc hk hp
      refine o_from (bind_eqO h_z4) ?_
      refine o_call rfl rfl rfl callable94 (looks_cons (look_d rfl rfl (pr hp 0 rfl rfl)) (fun _ => rfl) (looks_cons (look_d rfl rfl (pr hp 1 rfl rfl)) (fun _ => rfl) (looks_cons (look_d rfl rfl (pr hp 2 rfl rfl)) (fun _ => rfl) (looks_nil)))) (law33_may_ok _ _ _) (o_eqO ?_)
      exact d_end rfl rfl rfl
    · intro S hc hk hp
      refine o_beql Try.underlying4 rfl rfl guard_none (look_d rfl rfl (pr hp 0 rfl rfl)) (look_d rfl rfl (pr hp 1 rfl rfl)) (fun _ => rfl) (fun _ => rfl) ?_
      exact d_end rfl rfl rfl
    · intro S hc hk hp
      refine o_assign rfl rfl guard_none (look_d rfl rfl (pr hp 0 rfl rfl)) (fun _ => rfl) ?_
      exact d_end rfl rfl rfl
    · intro S hc hk hp
      refine o_assign rfl rfl guard_none (look_d rfl rfl (pr hp 0 rfl rfl)) (fun _ => rfl) ?_
      exact d_end rfl rfl rfl
    refine den_code_ret ?_
    refine dene_ret ?_
    exact dene_resI (val0_0, val0_1, val0_2) (res2 rfl (rv_tmp rfl) (rv_tmp rfl)) (fun _ _ _ k => ato_pick [1, 2, 3, 4] rfl rfl k)
  · refine den_skip ?_
    refine den_seq ?_
    refine den_seq ?_
    refine den_region rfl ?_
    refine o_faddr field68_0 type3 (by decide) rfl rfl guard_none (look_tmp rfl) (fun _ => rfl) ?_
    refine o_oloadi 0 rfl type3 T_law33_Op_foc0 rfl guard_none (look_tmp rfl) (fun _ => rfl) ?_
    refine o_eql rfl rfl guard_none (look_tmp rfl) (look_int rfl) (fun _ => rfl) (fun _ => rfl) ?_
    refine o_end ?_
    refine den_cond (look_tmp rfl) ?_ ?_
    · refine den_seq ?_
      refine den_region rfl ?_
      refine o_move rfl rfl guard_none (look_tmp rfl) (fun _ => rfl) ?_
      refine o_move rfl rfl guard_none (look_tmp rfl) (fun _ => rfl) ?_
      refine o_oloadi 0 rfl type68 foc_self rfl guard_none (look_tmp rfl) (fun _ => rfl) ?_
      refine o_call rfl rfl rfl callable94 (looks_cons (look_tmp rfl) (fun _ => rfl) (looks_cons (look_tmp rfl) (fun _ => rfl) (looks_cons (look_tmp rfl) (fun _ => rfl) (looks_nil)))) (law33_may_ok _ _ _) (fun z5 => ?_)
      refine o_assign rfl rfl guard_none (look_tmp rfl) (fun _ => rfl) ?_
      refine o_end ?_
      refine den_seq ?_
      refine den_region rfl ?_
      refine o_move rfl rfl guard_none (look_tmp rfl) (fun _ => rfl) ?_
      refine o_move rfl rfl guard_none (look_tmp rfl) (fun _ => rfl) ?_
      refine o_weak (sub_nilvec (R := T_law33_sight_rep) rfl) ?_
      refine o_append Try.underlying60 (info_i info153) (info_z info153) (info_all info153).2.1 rfl (info_all info153).2.2 rfl (look_tmp rfl) rfl (feeds_slice Try.underlying60 rfl (look_tmp rfl) rfl) (fun z7 z6 => ?_)
      refine o_assign rfl rfl guard_none (look_tmp rfl) (fun _ => rfl) ?_
      refine o_end ?_
      refine den_seq ?_
      refine den_seq ?_
      refine den_region rfl ?_
      refine o_move rfl rfl guard_none (look_tmp rfl) (fun _ => rfl) ?_
      refine o_end ?_
      refine den_bindA (A := Value) (fun z8α z8 => [(0, ⟨Rep.addr, (blk0, off0), true⟩), (7, ⟨Rep.addr, (z1, 0), true⟩), (11, ⟨Rep.bool, z5, true⟩), (10, ⟨Rep.val1, z8α, true⟩)]) (fun z8α z8 => [.obj true z1 0 (.dat T_law33_Op_rep) x_3, .obj true 0 0 (mrep val0_0 (Rep.str) (T_wall_class_rep)) w_0.of, .obj true 0 0 (mrep val0_1 (T_wall_sight_rep) (Rep.int .i64)) w_0.seen, .obj true 0 0 (mrep val0_2 (T_wall_share_rep) (Rep.int .i64)) w_0.has, .obj true blk0 off0 (.dat (T_wall_Wall_repo val0_0 val0_1 val0_2)) w_0, .vec z8α (T_law33_sight_rep) z8]) ?_ (fun z8α z8 => ?_)
      · refine den_cond (look_tmp rfl) ?_ ?_
        · refine den_region rfl ?_
          refine o_move rfl rfl guard_none (look_tmp rfl) (fun _ => rfl) ?_
          refine o_faddr field68_1 type9 (by decide) rfl rfl guard_none (look_tmp rfl) (fun _ => rfl) ?_
          refine o_oloadi 1 rfl type9 T_law33_Op_foc1 rfl guard_none (look_tmp rfl) (fun _ => rfl) ?_
          refine o_faddr field68_2 type9 (by decide) rfl rfl guard_none (look_tmp rfl) (fun _ => rfl) ?_
          refine o_oloadi 1 rfl type9 T_law33_Op_foc2 rfl guard_none (look_tmp rfl) (fun _ => rfl) ?_
          refine o_build (R := T_law33_sight_rep0) (f := T_law33_sight_tup) (y := (⟨x_3.Who, x_3.Owner⟩ : T_law33_sight)) shape153 rfl rfl rfl rfl guard_none (bld_part rfl rfl (look_tmp rfl) (fun _ => rfl) (bld_part rfl rfl (look_tmp rfl) (fun _ => rfl) (bld_nil))) ?_
          refine o_bslice Try.underlying60 (info_i info153) (info_z info153) type153 rfl rfl rfl rfl rfl rfl guard_none (looksL_cons (look_tmp rfl) (fun _ => rfl) (looksL_nil)) ?_
          refine o_append Try.underlying60 (info_i info153) (info_z info153) (info_all info153).2.1 rfl (info_all info153).2.2 rfl (look_tmp rfl) rfl (feeds_slice Try.underlying60 rfl (look_tmp rfl) rfl) (fun z15 z14 => ?_)
          refine o_assign rfl rfl guard_none (look_tmp rfl) (fun _ => rfl) ?_
          refine o_end ?_
          refine den_endA z15 ((Sub.trans (sub_pick [1, 2, 3, 4, 5, 0] rfl rfl) (sub_env (sube_cons rfl (sube_cons rfl (sube_cons rfl (sube_cons rfl (sube_nil))))))))
        · refine den_skip ?_
          refine den_endA z7 ((Sub.trans (sub_pick [1, 2, 3, 4, 5, 0] rfl rfl) (sub_env (sube_cons rfl (sube_cons rfl (sube_cons rfl (sube_cons rfl (sube_nil))))))))
      refine den_seq ?_
      refine den_region rfl ?_
      refine o_move rfl rfl guard_none (look_tmp rfl) (fun _ => rfl) ?_
      refine o_move rfl rfl guard_none (look_tmp rfl) (fun _ => rfl) ?_
      refine o_faddr field68_1 type9 (by decide) rfl rfl guard_none (look_tmp rfl) (fun _ => rfl) ?_
      refine o_oloadi 0 rfl type9 T_law33_Op_foc1 rfl guard_none (look_tmp rfl) (fun _ => rfl) ?_
      refine o_faddr field68_2 type9 (by decide) rfl rfl guard_none (look_tmp rfl) (fun _ => rfl) ?_
      refine o_oloadi 0 rfl type9 T_law33_Op_foc2 rfl guard_none (look_tmp rfl) (fun _ => rfl) ?_
      refine o_weak (H' := [.obj true 0 0 (mrep val0_0 (Rep.str) (T_wall_class_rep)) w_0.of, .obj true 0 0 (mrep val0_1 (T_wall_sight_rep) (Rep.int .i64)) w_0.seen, .obj true 0 0 (mrep val0_2 (T_wall_share_rep) (Rep.int .i64)) w_0.has, .obj true blk0 off0 (.dat (T_wall_Wall_repo val0_0 val0_1 val0_2)) w_0] ++ ([] ++ [.obj true z1 0 (.dat T_law33_Op_rep) x_3, .vec z8α (T_law33_sight_rep) z8])) (sub_pick [1, 2, 3, 4, 0, 5] rfl rfl) ?_
      refine o_callU rfl rfl rfl rfl rfl callable34 (looks_cons (look_tmp rfl) (fun _ => rfl) (looks_cons (look_tmp rfl) (fun _ => rfl) (looks_cons (look_tmp rfl) (fun _ => rfl) (looks_nil)))) .nil (wall_Wall_See_ok _ _ _ _ _ w_0 x_3.Who x_3.Owner) (fun _ _ => (wr_c (wr_c (wr_c (wr_c wr_n))))) (fun z10α z9 => ?_)
      obtain ⟨z11, z12, z13⟩ := z10α
      refine o_weak (H' := [.obj true 0 0 (mrep z11 (Rep.str) (T_wall_class_rep)) z9.2.of, .obj true 0 0 (mrep z12 (T_wall_sight_rep) (Rep.int .i64)) z9.2.seen, .obj true 0 0 (mrep z13 (T_wall_share_rep) (Rep.int .i64)) z9.2.has, .obj true blk0 off0 (.dat (T_wall_Wall_repo z11 z12 z13)) z9.2, .obj true z1 0 (.dat T_law33_Op_rep) x_3, .vec z8α (T_law33_sight_rep) z8]) (sub_pick [0, 1, 2, 3, 4, 5] rfl rfl) ?_
      refine o_move rfl rfl guard_none (look_tmp rfl) (fun _ => rfl) ?_
      refine o_beql Try.underlying4 rfl rfl guard_none (look_tmp rfl) (look_tmp rfl) (fun _ => rfl) (fun _ => rfl) ?_
      refine o_assign rfl rfl guard_none (look_tmp rfl) (fun _ => rfl) ?_
      refine o_assign rfl rfl guard_none (look_tmp rfl) (fun _ => rfl) ?_
      refine o_end ?_
      refine den_code_ret ?_
      refine dene_ret ?_
      refine dene_weak (H' := [.vec z8α (T_law33_sight_rep) z8, .obj true 0 0 (mrep z11 (Rep.str) (T_wall_class_rep)) z9.2.of, .obj true 0 0 (mrep z12 (T_wall_sight_rep) (Rep.int .i64)) z9.2.seen, .obj true 0 0 (mrep z13 (T_wall_share_rep) (Rep.int .i64)) z9.2.has, .obj true blk0 off0 (.dat (T_wall_Wall_repo z11 z12 z13)) z9.2, .obj true z1 0 (.dat T_law33_Op_rep) x_3]) (sub_pick [5, 0, 1, 2, 3, 4] rfl rfl) ?_
      refine dene_weak (sub_freeze (s := 8) rfl) ?_
      exact dene_resI (z11, z12, z13) (res2 rfl (rv_tmp rfl) (rv_tmp rfl)) (fun _ _ _ k => ato_pick [0, 1, 2, 3] rfl rfl k)
    · refine den_skip ?_
      refine den_seq ?_
      refine den_seq ?_
      refine den_region rfl ?_
      refine o_faddr field68_0 type3 (by decide) rfl rfl guard_none (look_tmp rfl) (fun _ => rfl) ?_
      refine o_oloadi 0 rfl type3 T_law33_Op_foc0 rfl guard_none (look_tmp rfl) (fun _ => rfl) ?_
      refine o_eql rfl rfl guard_none (look_tmp rfl) (look_int rfl) (fun _ => rfl) (fun _ => rfl) ?_
      refine o_end ?_
      refine den_cond (look_tmp rfl) ?_ ?_
      · refine den_seq ?_
        refine den_seq ?_
        refine den_region rfl ?_
        refine o_assign rfl rfl guard_none (look_int rfl) (fun _ => rfl) ?_
        refine o_end ?_
        refine den_bindA (A := Value) (fun z16α z16 => [(0, ⟨Rep.addr, (blk0, off0), true⟩), (2, ⟨(T_law33_sight_rep).slice, m_2, true⟩), (7, ⟨Rep.addr, (z1, 0), true⟩), (10, ⟨Rep.val1, z16α, true⟩)]) (fun z16α z16 => [.obj true z1 0 (.dat T_law33_Op_rep) x_3, .obj true 0 0 (mrep val0_0 (Rep.str) (T_wall_class_rep)) w_0.of, .obj true 0 0 (mrep val0_1 (T_wall_sight_rep) (Rep.int .i64)) w_0.seen, .obj true 0 0 (mrep val0_2 (T_wall_share_rep) (Rep.int .i64)) w_0.has, .obj true blk0 off0 (.dat (T_wall_Wall_repo val0_0 val0_1 val0_2)) w_0, .vec z16α (T_law33_sight_rep) z16]) ?_ (fun z16α z16 => ?_)
        · refine den_block ?_
          refine den_loopA (A := Value) (law33_step_L1b m_2 x_3) (fun z21α z21 => [(12, ⟨Rep.int .i64, z21.1, true⟩), (0, ⟨Rep.addr, (blk0, off0), true⟩), (2, ⟨(T_law33_sight_rep).slice, m_2, true⟩), (7, ⟨Rep.addr, (z1, 0), true⟩), (10, ⟨Rep.val1, z21α, true⟩)]) (fun z21α z21 => [.obj true z1 0 (.dat T_law33_Op_rep) x_3, .obj true 0 0 (mrep val0_0 (Rep.str) (T_wall_class_rep)) w_0.of, .obj true 0 0 (mrep val0_1 (T_wall_sight_rep) (Rep.int .i64)) w_0.seen, .obj true 0 0 (mrep val0_2 (T_wall_share_rep) (Rep.int .i64)) w_0.has, .obj true blk0 off0 (.dat (T_wall_Wall_repo val0_0 val0_1 val0_2)) w_0, .vec z21α (T_law33_sight_rep) z21.2]) (0, ([] : (List T_law33_sight))) (Value.slice none 0 0) (fun z21α z21 => ?_) ((Sub.trans (sub_nilvec (R := T_law33_sight_rep) rfl) (Sub.trans (sub_pick [1, 2, 3, 4, 5, 0] rfl rfl) (sub_env (sube_cons rfl (sube_cons rfl (sube_cons rfl (sube_cons rfl (sube_cons rfl (sube_nil))))))))))
          refine den_seq ?_
          refine den_seq ?_
          refine den_region rfl ?_
          refine o_move rfl rfl guard_none (look_tmp rfl) (fun _ => rfl) ?_
          refine o_move rfl rfl guard_none (look_tmp rfl) (fun _ => rfl) ?_
          refine o_llen Try.underlying60 rfl rfl guard_none (look_tmp rfl) (fun _ => rfl) ?_
          refine o_lss rfl rfl guard_none (look_tmp rfl) (look_tmp rfl) (fun _ => rfl) (fun _ => rfl) ?_
          refine o_end ?_
          refine den_cond (look_tmp rfl) ?_ ?_
          · refine den_skip ?_
            refine den_seq ?_
            refine den_block ?_
            refine den_seq ?_
            refine den_open (fun z22 h_z22 => ?_)
            refine den_draw [(66, ⟨(T_law33_sight_rep).slice, m_2, true⟩), (67, ⟨Rep.int .i64, z21.1, true⟩), (68, ⟨(T_law33_sight_rep).ptrTo, z22, true⟩), (69, ⟨(Rep.str).ptrTo, z22.who, true⟩), (70, ⟨Rep.str, z22.who, true⟩), (71, ⟨Rep.addr, (z1, 0 + 1), true⟩), (72, ⟨Rep.str, x_3.Who, true⟩), (73, ⟨Rep.bool, z22.who != x_3.Who, true⟩)] mixed rfl rfl ⟨?_, ?_, ?_, ?_, ?_, ?_, ?_, ?_, trivial⟩ ?_
            · intro S hc hk hp
              refine o_move rfl rfl guard_none (look_o rfl rfl) (fun _ => rfl) ?_
              exact d_end rfl rfl rfl
            · intro S hc hk hp
              refine o_move rfl rfl guard_none (look_o rfl rfl) (fun _ => rfl) ?_
              exact d_end rfl rfl rfl
            · intro S hc hk hp
              refine o_from (bind_eqO h_z22) ?_
              refine o_iaddr Try.underlying60 type153 rfl rfl (look_d rfl rfl (pr hp 0 rfl rfl)) (look_d rfl rfl (pr hp 1 rfl rfl)) rfl rfl (o_eqO ?_)
              exact d_end rfl rfl rfl
            · intro S hc hk hp
              refine o_fptr field153_0 type9 (by decide) T_law33_sight_foc0 rfl rfl guard_none (look_d rfl rfl (pr hp 0 rfl rfl)) (fun _ => rfl) ?_
              exact d_end rfl rfl rfl
            · intro S hc hk hp
              refine o_load type9 rfl rfl guard_none (look_d rfl rfl (pr hp 0 rfl rfl)) (fun _ => rfl) ?_
              exact d_end rfl rfl rfl
            · intro S hc hk hp
              refine o_faddr field68_1 type9 (by decide) rfl rfl guard_none (look_o rfl rfl) (fun _ => rfl) ?_
              exact d_end rfl rfl rfl
            · intro S hc hk hp
              refine o_oloadi 0 rfl type9 T_law33_Op_foc1 rfl guard_none (look_d rfl rfl (pr hp 0 rfl rfl)) (fun _ => rfl) ?_
              exact d_end rfl rfl rfl
            · intro S hc hk hp
              refine o_sneq rfl rfl guard_none (look_d rfl rfl (pr hp 0 rfl rfl)) (look_d rfl rfl (pr hp 1 rfl rfl)) (fun _ => rfl) (fun _ => rfl) ?_
              exact d_end rfl rfl rfl
            refine den_cond (look_tmp rfl) ?_ ?_
            · refine den_region rfl ?_
              refine o_move rfl rfl guard_none (look_tmp rfl) (fun _ => rfl) ?_
              refine o_move rfl rfl guard_none (look_tmp rfl) (fun _ => rfl) ?_
              refine o_move rfl rfl guard_none (look_tmp rfl) (fun _ => rfl) ?_
              refine o_iaddr Try.underlying60 type153 rfl rfl (look_tmp rfl) (look_tmp rfl) rfl rfl (fun z23 => ?_)
              refine o_load type153 rfl rfl guard_none (look_tmp rfl) (fun _ => rfl) ?_
              refine o_bslice Try.underlying60 (info_i info153) (info_z info153) type153 rfl rfl rfl rfl rfl rfl guard_none (looksL_cons (look_tmp rfl) (fun _ => rfl) (looksL_nil)) ?_
              refine o_weak (H' := [.vec z21α (T_law33_sight_rep) z21.2, .obj true z1 0 (.dat T_law33_Op_rep) x_3, .obj true 0 0 (mrep val0_0 (Rep.str) (T_wall_class_rep)) w_0.of, .obj true 0 0 (mrep val0_1 (T_wall_sight_rep) (Rep.int .i64)) w_0.seen, .obj true 0 0 (mrep val0_2 (T_wall_share_rep) (Rep.int .i64)) w_0.has, .obj true blk0 off0 (.dat (T_wall_Wall_repo val0_0 val0_1 val0_2)) w_0]) (sub_pick [5, 0, 1, 2, 3, 4] rfl rfl) ?_
              refine o_append Try.underlying60 (info_i info153) (info_z info153) (info_all info153).2.1 rfl (info_all info153).2.2 rfl (look_tmp rfl) rfl (feeds_slice Try.underlying60 rfl (look_tmp rfl) rfl) (fun z25 z24 => ?_)
              refine o_assign rfl rfl guard_none (look_tmp rfl) (fun _ => rfl) ?_
              refine o_end ?_
              refine den_blkend ?_
              refine den_region rfl ?_
              refine o_move rfl rfl guard_none (look_tmp rfl) (fun _ => rfl) ?_
              refine o_add rfl rfl guard_none (look_tmp rfl) (look_int rfl) (fun _ => rfl) (fun _ => rfl) ?_
              refine o_assign rfl rfl guard_none (look_tmp rfl) (fun _ => rfl) ?_
              refine o_end ?_
              refine den_nextA z25 ((Sub.trans (sub_pick [1, 2, 3, 4, 5, 0] rfl rfl) (sub_env (sube_cons rfl (sube_cons rfl (sube_cons rfl (sube_cons rfl (sube_cons rfl (sube_nil)))))))))
            · refine den_skip ?_
              refine den_blkend ?_
              refine den_region rfl ?_
              refine o_move rfl rfl guard_none (look_tmp rfl) (fun _ => rfl) ?_
              refine o_add rfl rfl guard_none (look_tmp rfl) (look_int rfl) (fun _ => rfl) (fun _ => rfl) ?_
              refine o_assign rfl rfl guard_none (look_tmp rfl) (fun _ => rfl) ?_
              refine o_end ?_
              refine den_nextA z21α ((sub_env (sube_cons rfl (sube_cons rfl (sube_cons rfl (sube_cons rfl (sube_cons rfl (sube_nil))))))))
          · refine den_code_exit ?_
            refine dene_out rfl ?_
            refine dene_loopA (by simp) ?_
            refine dene_to rfl ?_
            refine den_endA z21α ((sub_env (sube_cons rfl (sube_cons rfl (sube_cons rfl (sube_cons rfl (sube_nil)))))))
        refine den_seq ?_
        refine den_open (fun z18 h_z18 => ?_)
        refine den_open (fun z20 h_z20 => ?_)
        have hB : ∀ (z17α : (Value × Value × Value)) (S : Nat → Bool) (b4 : Bool), S 4 = b4 → (([.obj true z1 0 (.dat T_law33_Op_rep) x_3, (cond (S 4) (.gone) (.obj true 0 0 (mrep val0_0 (Rep.str) (T_wall_class_rep)) w_0.of)), (cond (S 4) (.gone) (.obj true 0 0 (mrep val0_1 (T_wall_sight_rep) (Rep.int .i64)) w_0.seen)), (cond (S 4) (.gone) (.obj true 0 0 (mrep val0_2 (T_wall_share_rep) (Rep.int .i64)) w_0.has)), (cond (S 4) (.obj true blk0 off0 (.dat (T_wall_Wall_repo z17α.1 z17α.2.1 z17α.2.2)) z18.2) (.obj true blk0 off0 (.dat (T_wall_Wall_repo val0_0 val0_1 val0_2)) w_0)), .vec z16α (T_law33_sight_rep) z16, (cond (S 4) (.obj true 0 0 (mrep (z17α.1) (Rep.str) (T_wall_class_rep)) z18.2.of) (.gone)), (cond (S 4) (.obj true 0 0 (mrep (z17α.2.1) (T_wall_sight_rep) (Rep.int .i64)) z18.2.seen) (.gone)), (cond (S 4) (.obj true 0 0 (mrep (z17α.2.2) (T_wall_share_rep) (Rep.int .i64)) z18.2.has) (.gone))] : List Go.Eng.Item)) = ([.obj true z1 0 (.dat T_law33_Op_rep) x_3, (cond b4 (.gone) (.obj true 0 0 (mrep val0_0 (Rep.str) (T_wall_class_rep)) w_0.of)), (cond b4 (.gone) (.obj true 0 0 (mrep val0_1 (T_wall_sight_rep) (Rep.int .i64)) w_0.seen)), (cond b4 (.gone) (.obj true 0 0 (mrep val0_2 (T_wall_share_rep) (Rep.int .i64)) w_0.has)), (cond b4 (.obj true blk0 off0 (.dat (T_wall_Wall_repo z17α.1 z17α.2.1 z17α.2.2)) z18.2) (.obj true blk0 off0 (.dat (T_wall_Wall_repo val0_0 val0_1 val0_2)) w_0)), .vec z16α (T_law33_sight_rep) z16, (cond b4 (.obj true 0 0 (mrep (z17α.1) (Rep.str) (T_wall_class_rep)) z18.2.of) (.gone)), (cond b4 (.obj true 0 0 (mrep (z17α.2.1) (T_wall_sight_rep) (Rep.int .i64)) z18.2.seen) (.gone)), (cond b4 (.obj true 0 0 (mrep (z17α.2.2) (T_wall_share_rep) (Rep.int .i64)) z18.2.has) (.gone))] : List Go.Eng.Item) := fun z17α S b4 h4 => by subst h4; rfl
        refine den_weak sub_gone ?_
        refine den_weak sub_gone ?_
        refine den_weak sub_gone ?_
        refine den_weak (sub_pick (H' := [.obj true z1 0 (.dat T_law33_Op_rep) x_3, .obj true 0 0 (mrep val0_0 (Rep.str) (T_wall_class_rep)) w_0.of, .obj true 0 0 (mrep val0_1 (T_wall_sight_rep) (Rep.int .i64)) w_0.seen, .obj true 0 0 (mrep val0_2 (T_wall_share_rep) (Rep.int .i64)) w_0.has, .obj true blk0 off0 (.dat (T_wall_Wall_repo val0_0 val0_1 val0_2)) w_0, .vec z16α (T_law33_sight_rep) z16, .gone, .gone, .gone]) [3, 4, 5, 6, 7, 8, 0, 1, 2] rfl rfl) ?_
        refine den_drawA (A := (Value × Value × Value)) (H' := fun z17α => [.obj true z1 0 (.dat T_law33_Op_rep) x_3, .gone, .gone, .gone, .obj true blk0 off0 (.dat (T_wall_Wall_repo z17α.1 z17α.2.1 z17α.2.2)) z18.2, .vec z16α (T_law33_sight_rep) z16, .obj true 0 0 (mrep (z17α.1) (Rep.str) (T_wall_class_rep)) z18.2.of, .obj true 0 0 (mrep (z17α.2.1) (T_wall_sight_rep) (Rep.int .i64)) z18.2.seen, .obj true 0 0 (mrep (z17α.2.2) (T_wall_share_rep) (Rep.int .i64)) z18.2.has]) (fun z17α => [(81, ⟨Rep.val1, z16α, true⟩), (82, ⟨Rep.addr, (blk0, off0), true⟩), (83, ⟨Rep.addr, (z1, 0 + 1), true⟩), (84, ⟨Rep.str, x_3.Who, true⟩), (85, ⟨Rep.int .i64, z18.1, true⟩), (86, ⟨(T_law33_sight_rep).slice, m_2, true⟩), (87, ⟨Rep.addr, (z1, 0 + 1), true⟩), (88, ⟨Rep.str, x_3.Who, true⟩), (89, ⟨(Rep.str).slice, z20, true⟩), (90, ⟨Rep.int .i64, (z20.length : Int), true⟩), (91, ⟨Rep.bool, z18.1 == (z20.length : Int), true⟩), (8, ⟨Rep.val1, z16α, true⟩), (9, ⟨Rep.bool, z18.1 == (z20.length : Int), true⟩)]) (fun z17α S => [.obj true z1 0 (.dat T_law33_Op_rep) x_3, (cond (S 4) (.gone) (.obj true 0 0 (mrep val0_0 (Rep.str) (T_wall_class_rep)) w_0.of)), (cond (S 4) (.gone) (.obj true 0 0 (mrep val0_1 (T_wall_sight_rep) (Rep.int .i64)) w_0.seen)), (cond (S 4) (.gone) (.obj true 0 0 (mrep val0_2 (T_wall_share_rep) (Rep.int .i64)) w_0.has)), (cond (S 4) (.obj true blk0 off0 (.dat (T_wall_Wall_repo z17α.1 z17α.2.1 z17α.2.2)) z18.2) (.obj true blk0 off0 (.dat (T_wall_Wall_repo val0_0 val0_1 val0_2)) w_0)), .vec z16α (T_law33_sight_rep) z16, (cond (S 4) (.obj true 0 0 (mrep (z17α.1) (Rep.str) (T_wall_class_rep)) z18.2.of) (.gone)), (cond (S 4) (.obj true 0 0 (mrep (z17α.2.1) (T_wall_sight_rep) (Rep.int .i64)) z18.2.seen) (.gone)), (cond (S 4) (.obj true 0 0 (mrep (z17α.2.2) (T_wall_share_rep) (Rep.int .i64)) z18.2.has) (.gone))]) ((Value.slice none 0 0), (Value.slice none 0 0), (Value.slice none 0 0)) mixed (fun _ => rfl) rfl rfl (fun z17α S hS => hB z17α S true (hS 4 (by decide))) ⟨?_, ?_, ?_, ?_, ?_, ?_, ?_, ?_, ?_, ?_, ?_, ?_, ?_, trivial⟩ (fun z17α => ?_)
        · intro z17α S hc hk hp
          refine eq_H (H' := [.obj true z1 0 (.dat T_law33_Op_rep) x_3, (cond (S 4) (.gone) (.obj true 0 0 (mrep val0_0 (Rep.str) (T_wall_class_rep)) w_0.of)), (cond (S 4) (.gone) (.obj true 0 0 (mrep val0_1 (T_wall_sight_rep) (Rep.int .i64)) w_0.seen)), (cond (S 4) (.gone) (.obj true 0 0 (mrep val0_2 (T_wall_share_rep) (Rep.int .i64)) w_0.has)), (cond (S 4) (.obj true blk0 off0 (.dat (T_wall_Wall_repo z17α.1 z17α.2.1 z17α.2.2)) z18.2) (.obj true blk0 off0 (.dat (T_wall_Wall_repo val0_0 val0_1 val0_2)) w_0)), .vec z16α (T_law33_sight_rep) z16, (cond (S 4) (.obj true 0 0 (mrep (z17α.1) (Rep.str) (T_wall_class_rep)) z18.2.of) (.gone)), (cond (S 4) (.obj true 0 0 (mrep (z17α.2.1) (T_wall_sight_rep) (Rep.int .i64)) z18.2.seen) (.gone)), (cond (S 4) (.obj true 0 0 (mrep (z17α.2.2) (T_wall_share_rep) (Rep.int .i64)) z18.2.has) (.gone))]) (by first | exact hB z17α S (S 4) rfl | (have q := hB z17α S (S 4) rfl; simp only [cond_true, cond_false] at q; exact q)) ?_
          refine o_move rfl rfl guard_none (look_o rfl rfl) (fun _ => rfl) ?_
          apply h_endA (α := z17α) z17α
          · exact (.same (.same (.same (.same (.same (.same (.same (.same (.same (.same (.same (.same (.same .nil)))))))))))))
          · exact rfl
          · exact rfl
          · exact rfl
          · exact hB z17α (fun k => S k || Nat.beq k 0) (S 4) (or_ne rfl)
        · intro z17α S hc hk hp
          have e4 : S 4 = false := (not_yet (j := 4) (q := 0) hc hk rfl rfl rfl rfl)
          refine eq_H (H' := [.obj true z1 0 (.dat T_law33_Op_rep) x_3, .obj true 0 0 (mrep val0_0 (Rep.str) (T_wall_class_rep)) w_0.of, .obj true 0 0 (mrep val0_1 (T_wall_sight_rep) (Rep.int .i64)) w_0.seen, .obj true 0 0 (mrep val0_2 (T_wall_share_rep) (Rep.int .i64)) w_0.has, .obj true blk0 off0 (.dat (T_wall_Wall_repo val0_0 val0_1 val0_2)) w_0, .vec z16α (T_law33_sight_rep) z16, .gone, .gone, .gone]) (by first | exact hB z17α S false e4 | (have q := hB z17α S false e4; simp only [cond_true, cond_false] at q; exact q)) ?_
          refine o_move rfl rfl guard_none (look_o rfl rfl) (fun _ => rfl) ?_
          apply h_endA (α := z17α) z17α
          · exact (.same (.same (.same (.same (.same (.same (.same (.same (.same (.same (.same (.same (.same .nil)))))))))))))
          · exact rfl
          · exact rfl
          · exact rfl
          · exact hB z17α (fun k => S k || Nat.beq k 1) false (or_f e4 rfl)
        · intro z17α S hc hk hp
          have e4 : S 4 = false := (not_yet (j := 4) (q := 1) hc (not_yet (j := 3) (q := 0) hc hk rfl rfl rfl rfl) rfl rfl rfl rfl)
          refine eq_H (H' := [.obj true z1 0 (.dat T_law33_Op_rep) x_3, .obj true 0 0 (mrep val0_0 (Rep.str) (T_wall_class_rep)) w_0.of, .obj true 0 0 (mrep val0_1 (T_wall_sight_rep) (Rep.int .i64)) w_0.seen, .obj true 0 0 (mrep val0_2 (T_wall_share_rep) (Rep.int .i64)) w_0.has, .obj true blk0 off0 (.dat (T_wall_Wall_repo val0_0 val0_1 val0_2)) w_0, .vec z16α (T_law33_sight_rep) z16, .gone, .gone, .gone]) (by first | exact hB z17α S false e4 | (have q := hB z17α S false e4; simp only [cond_true, cond_false] at q; exact q)) ?_
          refine o_faddr field68_1 type9 (by decide) rfl rfl guard_none (look_o rfl rfl) (fun _ => rfl) ?_
          apply h_endA (α := z17α) z17α
          · exact (.same (.same (.same (.same (.same (.same (.same (.same (.same (.same (.same (.same (.same .nil)))))))))))))
          · exact rfl
          · exact rfl
          · exact rfl
          · exact hB z17α (fun k => S k || Nat.beq k 2) false (or_f e4 rfl)
        · intro z17α S hc hk hp
          have e4 : S 4 = false := (not_yet (j := 4) (q := 1) hc hk rfl rfl rfl rfl)
          refine eq_H (H' := [.obj true z1 0 (.dat T_law33_Op_rep) x_3, .obj true 0 0 (mrep val0_0 (Rep.str) (T_wall_class_rep)) w_0.of, .obj true 0 0 (mrep val0_1 (T_wall_sight_rep) (Rep.int .i64)) w_0.seen, .obj true 0 0 (mrep val0_2 (T_wall_share_rep) (Rep.int .i64)) w_0.has, .obj true blk0 off0 (.dat (T_wall_Wall_repo val0_0 val0_1 val0_2)) w_0, .vec z16α (T_law33_sight_rep) z16, .gone, .gone, .gone]) (by first | exact hB z17α S false e4 | (have q := hB z17α S false e4; simp only [cond_true, cond_false] at q; exact q)) ?_
          refine o_oloadi 0 rfl type9 T_law33_Op_foc1 rfl guard_none (look_d rfl rfl (pr hp 0 rfl rfl)) (fun _ => rfl) ?_
          apply h_endA (α := z17α) z17α
          · exact (.same (.same (.same (.same (.same (.same (.same (.same (.same (.same (.same (.same (.same .nil)))))))))))))
          · exact rfl
          · exact rfl
          · exact rfl
          · exact hB z17α (fun k => S k || Nat.beq k 3) false (or_f e4 rfl)
        · intro z17α S hc hk hp
          refine eq_H (H' := [.obj true z1 0 (.dat T_law33_Op_rep) x_3, .obj true 0 0 (mrep val0_0 (Rep.str) (T_wall_class_rep)) w_0.of, .obj true 0 0 (mrep val0_1 (T_wall_sight_rep) (Rep.int .i64)) w_0.seen, .obj true 0 0 (mrep val0_2 (T_wall_share_rep) (Rep.int .i64)) w_0.has, .obj true blk0 off0 (.dat (T_wall_Wall_repo val0_0 val0_1 val0_2)) w_0, .vec z16α (T_law33_sight_rep) z16, .gone, .gone, .gone]) (by first | exact hB z17α S false hk | (have q := hB z17α S false hk; simp only [cond_true, cond_false] at q; exact q)) ?_
          refine o_from (bind_eqO h_z18) ?_
          refine o_weak (H' := [.obj true 0 0 (mrep val0_0 (Rep.str) (T_wall_class_rep)) w_0.of, .obj true 0 0 (mrep val0_1 (T_wall_sight_rep) (Rep.int .i64)) w_0.seen, .obj true 0 0 (mrep val0_2 (T_wall_share_rep) (Rep.int .i64)) w_0.has, .obj true blk0 off0 (.dat (T_wall_Wall_repo val0_0 val0_1 val0_2)) w_0] ++ ([] ++ [.obj true z1 0 (.dat T_law33_Op_rep) x_3, .vec z16α (T_law33_sight_rep) z16, .gone, .gone, .gone])) (sub_pick [1, 2, 3, 4, 0, 5, 6, 7, 8] rfl rfl) ?_
          refine o_callU rfl rfl rfl rfl rfl callable33 (looks_cons (look_d rfl rfl (pr hp 0 rfl rfl)) (fun _ => rfl) (looks_cons (look_d rfl rfl (pr hp 1 rfl rfl)) (fun _ => rfl) (looks_nil))) .nil (wall_Wall_Forget_ok _ _ _ _ _ w_0 x_3.Who) (fun _ _ => (wr_c (wr_c (wr_c (wr_c wr_n))))) (fun z19α => o_eqOH ?_)
          refine o_weak (H' := [.obj true 0 0 (mrep z19α.1 (Rep.str) (T_wall_class_rep)) z18.2.of, .obj true 0 0 (mrep z19α.2.1 (T_wall_sight_rep) (Rep.int .i64)) z18.2.seen, .obj true 0 0 (mrep z19α.2.2 (T_wall_share_rep) (Rep.int .i64)) z18.2.has, .obj true blk0 off0 (.dat (T_wall_Wall_repo z19α.1 z19α.2.1 z19α.2.2)) z18.2, .obj true z1 0 (.dat T_law33_Op_rep) x_3, .vec z16α (T_law33_sight_rep) z16, .gone, .gone, .gone]) (sub_pick [0, 1, 2, 3, 4, 5, 6, 7, 8] rfl rfl) ?_
          refine o_weak sub_gone ?_
          refine o_weak sub_gone ?_
          refine o_weak sub_gone ?_
          refine o_weak (H' := [.obj true z1 0 (.dat T_law33_Op_rep) x_3, .gone, .gone, .gone, .obj true blk0 off0 (.dat (T_wall_Wall_repo z19α.1 z19α.2.1 z19α.2.2)) z18.2, .vec z16α (T_law33_sight_rep) z16, .obj true 0 0 (mrep z19α.1 (Rep.str) (T_wall_class_rep)) z18.2.of, .obj true 0 0 (mrep z19α.2.1 (T_wall_sight_rep) (Rep.int .i64)) z18.2.seen, .obj true 0 0 (mrep z19α.2.2 (T_wall_share_rep) (Rep.int .i64)) z18.2.has]) (sub_pick [7, 2, 1, 0, 6, 8, 3, 4, 5] rfl rfl) ?_
          apply h_endA (α := z17α) z19α
          · exact (.same (.same (.same (.same (.same (.same (.same (.same (.same (.same (.same (.same (.same .nil)))))))))))))
          · exact rfl
          · exact rfl
          · exact rfl
          · exact hB z19α (fun k => S k || Nat.beq k 4) true (or_i rfl)
        · intro z17α S hc hk hp
          refine eq_H (H' := [.obj true z1 0 (.dat T_law33_Op_rep) x_3, (cond (S 4) (.gone) (.obj true 0 0 (mrep val0_0 (Rep.str) (T_wall_class_rep)) w_0.of)), (cond (S 4) (.gone) (.obj true 0 0 (mrep val0_1 (T_wall_sight_rep) (Rep.int .i64)) w_0.seen)), (cond (S 4) (.gone) (.obj true 0 0 (mrep val0_2 (T_wall_share_rep) (Rep.int .i64)) w_0.has)), (cond (S 4) (.obj true blk0 off0 (.dat (T_wall_Wall_repo z17α.1 z17α.2.1 z17α.2.2)) z18.2) (.obj true blk0 off0 (.dat (T_wall_Wall_repo val0_0 val0_1 val0_2)) w_0)), .vec z16α (T_law33_sight_rep) z16, (cond (S 4) (.obj true 0 0 (mrep (z17α.1) (Rep.str) (T_wall_class_rep)) z18.2.of) (.gone)), (cond (S 4) (.obj true 0 0 (mrep (z17α.2.1) (T_wall_sight_rep) (Rep.int .i64)) z18.2.seen) (.gone)), (cond (S 4) (.obj true 0 0 (mrep (z17α.2.2) (T_wall_share_rep) (Rep.int .i64)) z18.2.has) (.gone))]) (by first | exact hB z17α S (S 4) rfl | (have q := hB z17α S (S 4) rfl; simp only [cond_true, cond_false] at q; exact q)) ?_
          refine o_move rfl rfl guard_none (look_o rfl rfl) (fun _ => rfl) ?_
          apply h_endA (α := z17α) z17α
          · exact (.same (.same (.same (.same (.same (.same (.same (.same (.same (.same (.same (.same (.same .nil)))))))))))))
          · exact rfl
          · exact rfl
          · exact rfl
          · exact hB z17α (fun k => S k || Nat.beq k 5) (S 4) (or_ne rfl)
        · intro z17α S hc hk hp
          refine eq_H (H' := [.obj true z1 0 (.dat T_law33_Op_rep) x_3, (cond (S 4) (.gone) (.obj true 0 0 (mrep val0_0 (Rep.str) (T_wall_class_rep)) w_0.of)), (cond (S 4) (.gone) (.obj true 0 0 (mrep val0_1 (T_wall_sight_rep) (Rep.int .i64)) w_0.seen)), (cond (S 4) (.gone) (.obj true 0 0 (mrep val0_2 (T_wall_share_rep) (Rep.int .i64)) w_0.has)), (cond (S 4) (.obj true blk0 off0 (.dat (T_wall_Wall_repo z17α.1 z17α.2.1 z17α.2.2)) z18.2) (.obj true blk0 off0 (.dat (T_wall_Wall_repo val0_0 val0_1 val0_2)) w_0)), .vec z16α (T_law33_sight_rep) z16, (cond (S 4) (.obj true 0 0 (mrep (z17α.1) (Rep.str) (T_wall_class_rep)) z18.2.of) (.gone)), (cond (S 4) (.obj true 0 0 (mrep (z17α.2.1) (T_wall_sight_rep) (Rep.int .i64)) z18.2.seen) (.gone)), (cond (S 4) (.obj true 0 0 (mrep (z17α.2.2) (T_wall_share_rep) (Rep.int .i64)) z18.2.has) (.gone))]) (by first | exact hB z17α S (S 4) rfl | (have q := hB z17α S (S 4) rfl; simp only [cond_true, cond_false] at q; exact q)) ?_
          refine o_faddr field68_1 type9 (by decide) rfl rfl guard_none (look_o rfl rfl) (fun _ => rfl) ?_
          apply h_endA (α := z17α) z17α
          · exact (.same (.same (.same (.same (.same (.same (.same (.same (.same (.same (.same (.same (.same .nil)))))))))))))
          · exact rfl
          · exact rfl
          · exact rfl
          · exact hB z17α (fun k => S k || Nat.beq k 6) (S 4) (or_ne rfl)
        · intro z17α S hc hk hp
          refine eq_H (H' := [.obj true z1 0 (.dat T_law33_Op_rep) x_3, (cond (S 4) (.gone) (.obj true 0 0 (mrep val0_0 (Rep.str) (T_wall_class_rep)) w_0.of)), (cond (S 4) (.gone) (.obj true 0 0 (mrep val0_1 (T_wall_sight_rep) (Rep.int .i64)) w_0.seen)), (cond (S 4) (.gone) (.obj true 0 0 (mrep val0_2 (T_wall_share_rep) (Rep.int .i64)) w_0.has)), (cond (S 4) (.obj true blk0 off0 (.dat (T_wall_Wall_repo z17α.1 z17α.2.1 z17α.2.2)) z18.2) (.obj true blk0 off0 (.dat (T_wall_Wall_repo val0_0 val0_1 val0_2)) w_0)), .vec z16α (T_law33_sight_rep) z16, (cond (S 4) (.obj true 0 0 (mrep (z17α.1) (Rep.str) (T_wall_class_rep)) z18.2.of) (.gone)), (cond (S 4) (.obj true 0 0 (mrep (z17α.2.1) (T_wall_sight_rep) (Rep.int .i64)) z18.2.seen) (.gone)), (cond (S 4) (.obj true 0 0 (mrep (z17α.2.2) (T_wall_share_rep) (Rep.int .i64)) z18.2.has) (.gone))]) (by first | exact hB z17α S (S 4) rfl | (have q := hB z17α S (S 4) rfl; simp only [cond_true, cond_false] at q; exact q)) ?_
          refine o_oloadi 0 rfl type9 T_law33_Op_foc1 rfl guard_none (look_d rfl rfl (pr hp 0 rfl rfl)) (fun _ => rfl) ?_
          apply h_endA (α := z17α) z17α
          · exact (.same (.same (.same (.same (.same (.same (.same (.same (.same (.same (.same (.same (.same .nil)))))))))))))
          · exact rfl
          · exact rfl
          · exact rfl
          · exact hB z17α (fun k => S k || Nat.beq k 7) (S 4) (or_ne rfl)
        · intro z17α S hc hk hp
          have e4 : S 4 = true := (pr hp 2 rfl rfl)
          refine eq_H (H' := [.obj true z1 0 (.dat T_law33_Op_rep) x_3, .gone, .gone, .gone, .obj true blk0 off0 (.dat (T_wall_Wall_repo z17α.1 z17α.2.1 z17α.2.2)) z18.2, .vec z16α (T_law33_sight_rep) z16, .obj true 0 0 (mrep (z17α.1) (Rep.str) (T_wall_class_rep)) z18.2.of, .obj true 0 0 (mrep (z17α.2.1) (T_wall_sight_rep) (Rep.int .i64)) z18.2.seen, .obj true 0 0 (mrep (z17α.2.2) (T_wall_share_rep) (Rep.int .i64)) z18.2.has]) (by first | exact hB z17α S true e4 | (have q := hB z17α S true e4; simp only [cond_true, cond_false] at q; exact q)) ?_
          refine o_from (bind_eqO h_z20) ?_
          refine o_call rfl rfl rfl callable95 (looks_cons (look_d rfl rfl (pr hp 0 rfl rfl)) (fun _ => rfl) (looks_cons (look_d rfl rfl (pr hp 1 rfl rfl)) (fun _ => rfl) (looks_nil))) (law33_of_ok _ _) (o_eqO ?_)
          apply h_endA (α := z17α) z17α
          · exact (.same (.same (.same (.same (.same (.same (.same (.same (.same (.same (.same (.same (.same .nil)))))))))))))
          · exact rfl
          · exact rfl
          · exact rfl
          · exact hB z17α (fun k => S k || Nat.beq k 8) true (or_t e4)
        · intro z17α S hc hk hp
          have e4 : S 4 = true := (pr (hc 8 _ rfl (pr hp 0 rfl rfl)) 2 rfl rfl)
          refine eq_H (H' := [.obj true z1 0 (.dat T_law33_Op_rep) x_3, .gone, .gone, .gone, .obj true blk0 off0 (.dat (T_wall_Wall_repo z17α.1 z17α.2.1 z17α.2.2)) z18.2, .vec z16α (T_law33_sight_rep) z16, .obj true 0 0 (mrep (z17α.1) (Rep.str) (T_wall_class_rep)) z18.2.of, .obj true 0 0 (mrep (z17α.2.1) (T_wall_sight_rep) (Rep.int .i64)) z18.2.seen, .obj true 0 0 (mrep (z17α.2.2) (T_wall_share_rep) (Rep.int .i64)) z18.2.has]) (by first | exact hB z17α S true e4 | (have q := hB z17α S true e4; simp only [cond_true, cond_false] at q; exact q)) ?_
          refine o_llen Try.underlying36 rfl rfl guard_none (look_d rfl rfl (pr hp 0 rfl rfl)) (fun _ => rfl) ?_
          apply h_endA (α := z17α) z17α
          · exact (.same (.same (.same (.same (.same (.same (.same (.same (.same (.same (.same (.same (.same .nil)))))))))))))
          · exact rfl
          · exact rfl
          · exact rfl
          · exact hB z17α (fun k => S k || Nat.beq k 9) true (or_t e4)
        · intro z17α S hc hk hp
          have e4 : S 4 = true := (pr hp 0 rfl rfl)
          refine eq_H (H' := [.obj true z1 0 (.dat T_law33_Op_rep) x_3, .gone, .gone, .gone, .obj true blk0 off0 (.dat (T_wall_Wall_repo z17α.1 z17α.2.1 z17α.2.2)) z18.2, .vec z16α (T_law33_sight_rep) z16, .obj true 0 0 (mrep (z17α.1) (Rep.str) (T_wall_class_rep)) z18.2.of, .obj true 0 0 (mrep (z17α.2.1) (T_wall_sight_rep) (Rep.int .i64)) z18.2.seen, .obj true 0 0 (mrep (z17α.2.2) (T_wall_share_rep) (Rep.int .i64)) z18.2.has]) (by first | exact hB z17α S true e4 | (have q := hB z17α S true e4; simp only [cond_true, cond_false] at q; exact q)) ?_
          refine o_eql rfl rfl guard_none (look_d rfl rfl (pr hp 0 rfl rfl)) (look_d rfl rfl (pr hp 1 rfl rfl)) (fun _ => rfl) (fun _ => rfl) ?_
          apply h_endA (α := z17α) z17α
          · exact (.same (.same (.same (.same (.same (.same (.same (.same (.same (.same (.same (.same (.same .nil)))))))))))))
          · exact rfl
          · exact rfl
          · exact rfl
          · exact hB z17α (fun k => S k || Nat.beq k 10) true (or_t e4)
        · intro z17α S hc hk hp
          have e4 : S 4 = true := (pr (hc 8 _ rfl (pr hp 1 rfl rfl)) 2 rfl rfl)
          refine eq_H (H' := [.obj true z1 0 (.dat T_law33_Op_rep) x_3, .gone, .gone, .gone, .obj true blk0 off0 (.dat (T_wall_Wall_repo z17α.1 z17α.2.1 z17α.2.2)) z18.2, .vec z16α (T_law33_sight_rep) z16, .obj true 0 0 (mrep (z17α.1) (Rep.str) (T_wall_class_rep)) z18.2.of, .obj true 0 0 (mrep (z17α.2.1) (T_wall_sight_rep) (Rep.int .i64)) z18.2.seen, .obj true 0 0 (mrep (z17α.2.2) (T_wall_share_rep) (Rep.int .i64)) z18.2.has]) (by first | exact hB z17α S true e4 | (have q := hB z17α S true e4; simp only [cond_true, cond_false] at q; exact q)) ?_
          refine o_assign rfl rfl guard_none (look_d rfl rfl (pr hp 0 rfl rfl)) (fun _ => rfl) ?_
          apply h_endA (α := z17α) z17α
          · exact (.same (.same (.same (.same (.same (.same (.same (.same (.same (.same (.same (.same (.same .nil)))))))))))))
          · exact rfl
          · exact rfl
          · exact rfl
          · exact hB z17α (fun k => S k || Nat.beq k 11) true (or_t e4)
        · intro z17α S hc hk hp
          have e4 : S 4 = true := (pr hp 6 rfl rfl)
          refine eq_H (H' := [.obj true z1 0 (.dat T_law33_Op_rep) x_3, .gone, .gone, .gone, .obj true blk0 off0 (.dat (T_wall_Wall_repo z17α.1 z17α.2.1 z17α.2.2)) z18.2, .vec z16α (T_law33_sight_rep) z16, .obj true 0 0 (mrep (z17α.1) (Rep.str) (T_wall_class_rep)) z18.2.of, .obj true 0 0 (mrep (z17α.2.1) (T_wall_sight_rep) (Rep.int .i64)) z18.2.seen, .obj true 0 0 (mrep (z17α.2.2) (T_wall_share_rep) (Rep.int .i64)) z18.2.has]) (by first | exact hB z17α S true e4 | (have q := hB z17α S true e4; simp only [cond_true, cond_false] at q; exact q)) ?_
          refine o_assign rfl rfl guard_none (look_d rfl rfl (pr hp 0 rfl rfl)) (fun _ => rfl) ?_
          apply h_endA (α := z17α) z17α
          · exact (.same (.same (.same (.same (.same (.same (.same (.same (.same (.same (.same (.same (.same .nil)))))))))))))
          · exact rfl
          · exact rfl
          · exact rfl
          · exact hB z17α (fun k => S k || Nat.beq k 12) true (or_t e4)
        refine den_weak (H' := [.obj true z1 0 (.dat T_law33_Op_rep) x_3, .obj true blk0 off0 (.dat (T_wall_Wall_repo z17α.1 z17α.2.1 z17α.2.2)) z18.2, .vec z16α (T_law33_sight_rep) z16, .obj true 0 0 (mrep z17α.1 (Rep.str) (T_wall_class_rep)) z18.2.of, .obj true 0 0 (mrep z17α.2.1 (T_wall_sight_rep) (Rep.int .i64)) z18.2.seen, .obj true 0 0 (mrep z17α.2.2 (T_wall_share_rep) (Rep.int .i64)) z18.2.has]) (sub_pick [0, 4, 5, 6, 7, 8] rfl rfl) ?_
        refine den_code_ret ?_
        refine dene_ret ?_
        refine dene_weak (H' := [.vec z16α (T_law33_sight_rep) z16, .obj true z1 0 (.dat T_law33_Op_rep) x_3, .obj true blk0 off0 (.dat (T_wall_Wall_repo z17α.1 z17α.2.1 z17α.2.2)) z18.2, .obj true 0 0 (mrep z17α.1 (Rep.str) (T_wall_class_rep)) z18.2.of, .obj true 0 0 (mrep z17α.2.1 (T_wall_sight_rep) (Rep.int .i64)) z18.2.seen, .obj true 0 0 (mrep z17α.2.2 (T_wall_share_rep) (Rep.int .i64)) z18.2.has]) (sub_pick [2, 0, 1, 3, 4, 5] rfl rfl) ?_
        refine dene_weak (sub_freeze (s := 8) rfl) ?_
        exact dene_resI (z17α.1, z17α.2.1, z17α.2.2) (res2 rfl (rv_tmp rfl) (rv_tmp rfl)) (fun _ _ _ k => ato_pick [2, 3, 4, 1] rfl rfl k)
      · refine den_skip ?_
        refine den_seq ?_
        refine den_seq ?_
        refine den_region rfl ?_
        refine o_faddr field68_0 type3 (by decide) rfl rfl guard_none (look_tmp rfl) (fun _ => rfl) ?_
        refine o_oloadi 0 rfl type3 T_law33_Op_foc0 rfl guard_none (look_tmp rfl) (fun _ => rfl) ?_
        refine o_eql rfl rfl guard_none (look_tmp rfl) (look_int rfl) (fun _ => rfl) (fun _ => rfl) ?_
        refine o_end ?_
        refine den_cond (look_tmp rfl) ?_ ?_
        · refine den_seq ?_
          refine den_open (fun z26 h_z26 => ?_)
          refine den_open (fun z28 h_z28 => ?_)
          refine den_open (fun z29 h_z29 => ?_)
          refine den_draw [(95, ⟨(T_law33_sight_rep).slice, m_2, true⟩), (96, ⟨Rep.addr, (blk0, off0), true⟩), (97, ⟨Rep.addr, (z1, 0 + 1), true⟩), (98, ⟨Rep.str, x_3.Who, true⟩), (99, ⟨(Rep.str).slice, z26, true⟩), (100, ⟨(T_law33_sight_rep).slice, m_2, true⟩), (101, ⟨Rep.addr, (z1, 0 + 1), true⟩), (102, ⟨Rep.str, x_3.Who, true⟩), (103, ⟨(Rep.str).slice, z28, true⟩), (104, ⟨Rep.bool, z29, true⟩), (8, ⟨(T_law33_sight_rep).slice, m_2, true⟩), (9, ⟨Rep.bool, z29, true⟩)] mixed rfl rfl ⟨?_, ?_, ?_, ?_, ?_, ?_, ?_, ?_, ?_, ?_, ?_, ?_, trivial⟩ ?_
          · intro S hc hk hp
            refine o_move rfl rfl guard_none (look_o rfl rfl) (fun _ => rfl) ?_
            exact d_end rfl rfl rfl
          · intro S hc hk hp
            refine o_move rfl rfl guard_none (look_o rfl rfl) (fun _ => rfl) ?_
            exact d_end rfl rfl rfl
          · intro S hc hk hp
            refine o_faddr field68_1 type9 (by decide) rfl rfl guard_none (look_o rfl rfl) (fun _ => rfl) ?_
            exact d_end rfl rfl rfl
          · intro S hc hk hp
            refine o_oloadi 0 rfl type9 T_law33_Op_foc1 rfl guard_none (look_d rfl rfl (pr hp 0 rfl rfl)) (fun _ => rfl) ?_
            exact d_end rfl rfl rfl
          · intro S hc hk hp
            refine o_from (bind_eqO h_z26) ?_
            refine o_weak (H' := [] ++ ([.obj true 0 0 (mrep val0_0 (Rep.str) (T_wall_class_rep)) w_0.of, .obj true 0 0 (mrep val0_1 (T_wall_sight_rep) (Rep.int .i64)) w_0.seen, .obj true 0 0 (mrep val0_2 (T_wall_share_rep) (Rep.int .i64)) w_0.has, .obj true blk0 off0 (.dat (T_wall_Wall_repo val0_0 val0_1 val0_2)) w_0] ++ [.obj true z1 0 (.dat T_law33_Op_rep) x_3])) (sub_pick [1, 2, 3, 4, 0] rfl rfl) ?_
            refine o_callU rfl rfl rfl rfl rfl callable36 (looks_cons (look_d rfl rfl (pr hp 0 rfl rfl)) (fun _ => rfl) (looks_cons (look_d rfl rfl (pr hp 1 rfl rfl)) (fun _ => rfl) (looks_nil))) (.cons (.cons (.cons (.cons .nil)))) (fun_frozen (wall_Wall_Seen_ok _ _ _ _ _ w_0 x_3.Who)) (fun _ _ => wr_n) (fun _ => o_eqOH ?_)
            refine o_weak (H' := [.obj true z1 0 (.dat T_law33_Op_rep) x_3, .obj true 0 0 (mrep val0_0 (Rep.str) (T_wall_class_rep)) w_0.of, .obj true 0 0 (mrep val0_1 (T_wall_sight_rep) (Rep.int .i64)) w_0.seen, .obj true 0 0 (mrep val0_2 (T_wall_share_rep) (Rep.int .i64)) w_0.has, .obj true blk0 off0 (.dat (T_wall_Wall_repo val0_0 val0_1 val0_2)) w_0]) (sub_pick [4, 0, 1, 2, 3] rfl rfl) ?_
            exact d_end rfl rfl rfl
          · intro S hc hk hp
            refine o_move rfl rfl guard_none (look_o rfl rfl) (fun _ => rfl) ?_
            exact d_end rfl rfl rfl
          · intro S hc hk hp
            refine o_faddr field68_1 type9 (by decide) rfl rfl guard_none (look_o rfl rfl) (fun _ => rfl) ?_
            exact d_end rfl rfl rfl
          · intro S hc hk hp
            refine o_oloadi 0 rfl type9 T_law33_Op_foc1 rfl guard_none (look_d rfl rfl (pr hp 0 rfl rfl)) (fun _ => rfl) ?_
            exact d_end rfl rfl rfl
          · intro S hc hk hp
            refine o_from (bind_eqO h_z28) ?_
            refine o_call rfl rfl rfl callable95 (looks_cons (look_d rfl rfl (pr hp 0 rfl rfl)) (fun _ => rfl) (looks_cons (look_d rfl rfl (pr hp 1 rfl rfl)) (fun _ => rfl) (looks_nil))) (law33_of_ok _ _) (o_eqO ?_)
            exact d_end rfl rfl rfl
          · intro S hc hk hp
            refine o_from (bind_eqO h_z29) ?_
            refine o_call rfl rfl rfl callable24 (looks_cons (look_d rfl rfl (pr hp 0 rfl rfl)) (fun _ => rfl) (looks_cons (look_d rfl rfl (pr hp 1 rfl rfl)) (fun _ => rfl) (looks_nil))) (plain_Texts_ok _ _) (o_eqO ?_)
            exact d_end rfl rfl rfl
          · intro S hc hk hp
            refine o_assign rfl rfl guard_none (look_d rfl rfl (pr hp 0 rfl rfl)) (fun _ => rfl) ?_
            exact d_end rfl rfl rfl
          · intro S hc hk hp
            refine o_assign rfl rfl guard_none (look_d rfl rfl (pr hp 0 rfl rfl)) (fun _ => rfl) ?_
            exact d_end rfl rfl rfl
          refine den_code_ret ?_
          refine dene_ret ?_
          exact dene_resI (val0_0, val0_1, val0_2) (res2 rfl (rv_tmp rfl) (rv_tmp rfl)) (fun _ _ _ k => ato_pick [1, 2, 3, 4] rfl rfl k)
        · refine den_skip ?_
          refine den_seq ?_
          refine den_region rfl ?_
          refine o_assign rfl rfl guard_none look_nil1 (fun _ => rfl) ?_
          refine o_end ?_
          refine den_seq ?_
          refine den_region rfl ?_
          refine o_move rfl rfl guard_none (look_tmp rfl) (fun _ => rfl) ?_
          refine o_move rfl rfl guard_none (look_tmp rfl) (fun _ => rfl) ?_
          refine o_faddr field68_1 type9 (by decide) rfl rfl guard_none (look_tmp rfl) (fun _ => rfl) ?_
          refine o_oloadi 0 rfl type9 T_law33_Op_foc1 rfl guard_none (look_tmp rfl) (fun _ => rfl) ?_
          refine o_call rfl rfl rfl callable95 (looks_cons (look_tmp rfl) (fun _ => rfl) (looks_cons (look_tmp rfl) (fun _ => rfl) (looks_nil))) (law33_of_ok _ _) (fun z30 => ?_)
          refine o_weak (sub_nilvec (R := Rep.str) rfl) ?_
          refine o_append Try.underlying36 (info_i info9) (info_z info9) (info_all info9).2.1 rfl (info_all info9).2.2 rfl (look_tmp rfl) rfl (feeds_slice Try.underlying36 rfl (look_tmp rfl) rfl) (fun z32 z31 => ?_)
          refine o_assign rfl rfl guard_none (look_tmp rfl) (fun _ => rfl) ?_
          refine o_end ?_
          refine den_seq ?_
          refine den_region rfl ?_
          refine o_move rfl rfl guard_none (look_tmp rfl) (fun _ => rfl) ?_
          refine o_move rfl rfl guard_none (look_tmp rfl) (fun _ => rfl) ?_
          refine o_faddr field68_2 type9 (by decide) rfl rfl guard_none (look_tmp rfl) (fun _ => rfl) ?_
          refine o_oloadi 1 rfl type9 T_law33_Op_foc2 rfl guard_none (look_tmp rfl) (fun _ => rfl) ?_
          refine o_call rfl rfl rfl callable95 (looks_cons (look_tmp rfl) (fun _ => rfl) (looks_cons (look_tmp rfl) (fun _ => rfl) (looks_nil))) (law33_of_ok _ _) (fun z33 => ?_)
          refine o_append Try.underlying36 (info_i info9) (info_z info9) (info_all info9).2.1 rfl (info_all info9).2.2 rfl (look_tmp rfl) rfl (feeds_slice Try.underlying36 rfl (look_tmp rfl) rfl) (fun z35 z34 => ?_)
          refine o_assign rfl rfl guard_none (look_tmp rfl) (fun _ => rfl) ?_
          refine o_end ?_
          refine den_seq ?_
          refine den_region rfl ?_
          refine o_move rfl rfl guard_none (look_tmp rfl) (fun _ => rfl) ?_
          refine o_move rfl rfl guard_none (look_tmp rfl) (fun _ => rfl) ?_
          refine o_faddr field68_1 type9 (by decide) rfl rfl guard_none (look_tmp rfl) (fun _ => rfl) ?_
          refine o_oloadi 1 rfl type9 T_law33_Op_foc1 rfl guard_none (look_tmp rfl) (fun _ => rfl) ?_
          refine o_faddr field68_2 type9 (by decide) rfl rfl guard_none (look_tmp rfl) (fun _ => rfl) ?_
          refine o_oloadi 1 rfl type9 T_law33_Op_foc2 rfl guard_none (look_tmp rfl) (fun _ => rfl) ?_
          refine o_weak (H' := [] ++ ([.obj true 0 0 (mrep val0_0 (Rep.str) (T_wall_class_rep)) w_0.of, .obj true 0 0 (mrep val0_1 (T_wall_sight_rep) (Rep.int .i64)) w_0.seen, .obj true 0 0 (mrep val0_2 (T_wall_share_rep) (Rep.int .i64)) w_0.has, .obj true blk0 off0 (.dat (T_wall_Wall_repo val0_0 val0_1 val0_2)) w_0] ++ [.vec z35 (Rep.str) z34, .obj true z1 0 (.dat T_law33_Op_rep) x_3])) (sub_pick [2, 3, 4, 5, 0, 1] rfl rfl) ?_
          refine o_callU rfl rfl rfl rfl rfl callable37 (looks_cons (look_tmp rfl) (fun _ => rfl) (looks_cons (look_tmp rfl) (fun _ => rfl) (looks_cons (look_tmp rfl) (fun _ => rfl) (looks_nil)))) (.cons (.cons (.cons (.cons .nil)))) (wall_Wall_Leak_ok _ _ _ _ _ w_0 x_3.Who x_3.Owner) (fun _ _ => wr_n) (fun z37α z36 => ?_)
          refine o_weak (H' := [.obj true 0 0 (mrep val0_0 (Rep.str) (T_wall_class_rep)) w_0.of, .obj true 0 0 (mrep val0_1 (T_wall_sight_rep) (Rep.int .i64)) w_0.seen, .obj true 0 0 (mrep val0_2 (T_wall_share_rep) (Rep.int .i64)) w_0.has, .obj true blk0 off0 (.dat (T_wall_Wall_repo val0_0 val0_1 val0_2)) w_0, .vec z35 (Rep.str) z34, .obj true z1 0 (.dat T_law33_Op_rep) x_3]) (sub_pick [0, 1, 2, 3, 4, 5] rfl rfl) ?_
          refine o_move rfl rfl guard_none (look_tmp rfl) (fun _ => rfl) ?_
          refine o_move rfl rfl guard_none (look_tmp rfl) (fun _ => rfl) ?_
          refine o_lend1 false rfl rfl rfl rfl guard_none callable35 (looksM_c (look_tmp rfl) (fun _ => rfl) (looksM_l 4 rfl (lookl_wholeg (.inl rfl) (look_tmp rfl) (fun _ => rfl)) (looksM_nil))) fl_bool (law33_clash_ok _ _) (fun z38 => ?_)
          refine o_beql Try.underlying4 rfl rfl guard_none (look_tmp rfl) (look_tmp rfl) (fun _ => rfl) (fun _ => rfl) ?_
          refine o_assign rfl rfl guard_none (look_tmp rfl) (fun _ => rfl) ?_
          refine o_assign rfl rfl guard_none (look_tmp rfl) (fun _ => rfl) ?_
          refine o_end ?_
          refine den_code_ret ?_
          exact dene_resI (val0_0, val0_1, val0_2) (res2 rfl (rv_tmp rfl) (rv_tmp rfl)) (fun _ _ _ k => ato_pick [0, 1, 2, 3] rfl rfl k)

theorem law33_run_ok (blk0 : Nat) (off0 : Nat) (val0_0 : Value) (val0_1 : Value) (val0_2 : Value) (w_0 : T_wall_Wall) (l_1 : (List T_wall_Owner)) (m_2 : (List T_law33_sight)) (ops_3 : (List T_law33_Op)) : FunOkI Try.prog 30 [⟨.addr, (blk0, off0), true⟩, ⟨(T_wall_Owner_rep).slice, l_1, true⟩, ⟨(T_law33_sight_rep).slice, m_2, true⟩, ⟨(T_law33_Op_rep).slice, ops_3, true⟩] [.obj true 0 0 (mrep val0_0 (Rep.str) (T_wall_class_rep)) w_0.of, .obj true 0 0 (mrep val0_1 (T_wall_sight_rep) (Rep.int .i64)) w_0.seen, .obj true 0 0 (mrep val0_2 (T_wall_share_rep) (Rep.int .i64)) w_0.has, .obj true blk0 off0 (.dat (T_wall_Wall_repo val0_0 val0_1 val0_2)) w_0] (law33_run w_0 l_1 m_2 ops_3) (Rep.pair ((T_law33_sight_rep).slice) (Rep.bool)) (fun (α : (Value × Value × Value)) (y : ((List T_law33_sight) × Bool × T_wall_Wall)) => (y.1, y.2.1)) (fun α y => [.obj true 0 0 (mrep α.1 (Rep.str) (T_wall_class_rep)) y.2.2.of, .obj true 0 0 (mrep α.2.1 (T_wall_sight_rep) (Rep.int .i64)) y.2.2.seen, .obj true 0 0 (mrep α.2.2 (T_wall_share_rep) (Rep.int .i64)) y.2.2.has, .obj true blk0 off0 (.dat (T_wall_Wall_repo α.1 α.2.1 α.2.2)) y.2.2]) := by
  refine fun_okI Try.func30 rfl Try.ntmps30 rfl (all_cons rfl (all_cons rfl (all_cons rfl (all_cons rfl all_nil)))) (fun w0 ok0 M => ?_)
  refine den_seq ?_
  refine den_region rfl ?_
  refine o_assign rfl rfl guard_none look_nil1 (fun _ => rfl) ?_
  refine o_assign rfl rfl guard_none look_bool (fun _ => rfl) ?_
  refine o_end ?_
  refine den_seq ?_
  refine den_region rfl ?_
  refine o_assign rfl rfl guard_none look_bool (fun _ => rfl) ?_
  refine o_end ?_
  refine den_seq ?_
  refine den_seq ?_
  refine den_region rfl ?_
  refine o_assign rfl rfl guard_none (look_int rfl) (fun _ => rfl) ?_
  refine o_end ?_
  refine den_bindA (A := (Value × Value × Value)) (fun z1α z1 => [(2, ⟨(T_law33_sight_rep).slice, z1.1, true⟩), (10, ⟨Rep.bool, z1.2.1, true⟩)]) (fun z1α z1 => [.obj true 0 0 (mrep z1α.1 (Rep.str) (T_wall_class_rep)) z1.2.2.of, .obj true 0 0 (mrep z1α.2.1 (T_wall_sight_rep) (Rep.int .i64)) z1.2.2.seen, .obj true 0 0 (mrep z1α.2.2 (T_wall_share_rep) (Rep.int .i64)) z1.2.2.has, .obj true blk0 off0 (.dat (T_wall_Wall_repo z1α.1 z1α.2.1 z1α.2.2)) z1.2.2]) ?_ (fun z1α z1 => ?_)
  · refine den_block ?_
    refine den_loopA (A := (Value × Value × Value)) (law33_run_L1b l_1 ops_3) (fun z2α z2 => [(2, ⟨(T_law33_sight_rep).slice, z2.1, true⟩), (10, ⟨Rep.bool, z2.2.1, true⟩), (11, ⟨Rep.int .i64, z2.2.2.1, true⟩), (0, ⟨Rep.addr, (blk0, off0), true⟩), (1, ⟨(T_wall_Owner_rep).slice, l_1, true⟩), (3, ⟨(T_law33_Op_rep).slice, ops_3, true⟩)]) (fun z2α z2 => [.obj true 0 0 (mrep z2α.1 (Rep.str) (T_wall_class_rep)) z2.2.2.2.of, .obj true 0 0 (mrep z2α.2.1 (T_wall_sight_rep) (Rep.int .i64)) z2.2.2.2.seen, .obj true 0 0 (mrep z2α.2.2 (T_wall_share_rep) (Rep.int .i64)) z2.2.2.2.has, .obj true blk0 off0 (.dat (T_wall_Wall_repo z2α.1 z2α.2.1 z2α.2.2)) z2.2.2.2]) (m_2, true, 0, w_0) (val0_0, val0_1, val0_2) (fun z2α z2 => ?_) ((sub_env (sube_cons rfl (sube_cons rfl (sube_cons rfl (sube_cons rfl (sube_cons rfl (sube_cons rfl (sube_nil)))))))))
    refine den_seq ?_
    refine den_seq ?_
    refine den_region rfl ?_
    refine o_move rfl rfl guard_none (look_tmp rfl) (fun _ => rfl) ?_
    refine o_move rfl rfl guard_none (look_tmp rfl) (fun _ => rfl) ?_
    refine o_llen Try.underlying59 rfl rfl guard_none (look_tmp rfl) (fun _ => rfl) ?_
    refine o_lss rfl rfl guard_none (look_tmp rfl) (look_tmp rfl) (fun _ => rfl) (fun _ => rfl) ?_
    refine o_move rfl rfl guard_none (look_tmp rfl) (fun _ => rfl) ?_
    refine o_move rfl rfl (guard_some rfl rfl rfl) (look_tmp rfl) (fun _ => rfl) ?_
    refine o_pick rfl rfl guard_none (look_tmp rfl) (look_tmp rfl) look_bool (fun _ => rfl) (fun h1 h2 => pick_t ((fun _ => rfl) h1) h2) (fun _ _ => rfl) ?_
    refine o_end ?_
    refine den_cond (look_tmp rfl) ?_ ?_
    · refine den_skip ?_
      refine den_seq ?_
      refine den_block ?_
      refine den_region rfl ?_
      refine o_move rfl rfl guard_none (look_tmp rfl) (fun _ => rfl) ?_
      refine o_move rfl rfl guard_none (look_tmp rfl) (fun _ => rfl) ?_
      refine o_move rfl rfl guard_none (look_tmp rfl) (fun _ => rfl) ?_
      refine o_move rfl rfl guard_none (look_tmp rfl) (fun _ => rfl) ?_
      refine o_move rfl rfl guard_none (look_tmp rfl) (fun _ => rfl) ?_
      refine o_iaddr Try.underlying59 type68 rfl rfl (look_tmp rfl) (look_tmp rfl) rfl rfl (fun z3 => ?_)
      refine o_load type68 rfl rfl guard_none (look_tmp rfl) (fun _ => rfl) ?_
      refine o_weak (H' := [.obj true 0 0 (mrep z2α.1 (Rep.str) (T_wall_class_rep)) z2.2.2.2.of, .obj true 0 0 (mrep z2α.2.1 (T_wall_sight_rep) (Rep.int .i64)) z2.2.2.2.seen, .obj true 0 0 (mrep z2α.2.2 (T_wall_share_rep) (Rep.int .i64)) z2.2.2.2.has, .obj true blk0 off0 (.dat (T_wall_Wall_repo z2α.1 z2α.2.1 z2α.2.2)) z2.2.2.2] ++ ([] ++ [])) (sub_pick [0, 1, 2, 3] rfl rfl) ?_
      refine o_callU rfl rfl rfl rfl rfl callable62 (looks_cons (look_tmp rfl) (fun _ => rfl) (looks_cons (look_tmp rfl) (fun _ => rfl) (looks_cons (look_tmp rfl) (fun _ => rfl) (looks_cons (look_tmp rfl) (fun _ => rfl) (looks_nil))))) .nil (law33_step_ok _ _ _ _ _ z2.2.2.2 l_1 z2.1 z3) (fun _ _ => (wr_c (wr_c (wr_c (wr_c wr_n))))) (fun z5α z4 => ?_)
      obtain ⟨z6, z7, z8⟩ := z5α
      refine o_weak (H' := [.obj true 0 0 (mrep z6 (Rep.str) (T_wall_class_rep)) z4.2.2.of, .obj true 0 0 (mrep z7 (T_wall_sight_rep) (Rep.int .i64)) z4.2.2.seen, .obj true 0 0 (mrep z8 (T_wall_share_rep) (Rep.int .i64)) z4.2.2.has, .obj true blk0 off0 (.dat (T_wall_Wall_repo z6 z7 z8)) z4.2.2]) (sub_pick [0, 1, 2, 3] rfl rfl) ?_
      refine o_move rfl rfl guard_none (look_tmp rfl) (fun _ => rfl) ?_
      refine o_fst rfl rfl guard_none (look_tmp rfl) (fun _ => rfl) ?_
      refine o_snd rfl rfl guard_none (look_tmp rfl) (fun _ => rfl) ?_
      refine o_assign rfl rfl guard_none (look_tmp rfl) (fun _ => rfl) ?_
      refine o_assign rfl rfl guard_none (look_tmp rfl) (fun _ => rfl) ?_
      refine o_end ?_
      refine den_blkend ?_
      refine den_region rfl ?_
      refine o_move rfl rfl guard_none (look_tmp rfl) (fun _ => rfl) ?_
      refine o_add rfl rfl guard_none (look_tmp rfl) (look_int rfl) (fun _ => rfl) (fun _ => rfl) ?_
      refine o_assign rfl rfl guard_none (look_tmp rfl) (fun _ => rfl) ?_
      refine o_end ?_
      refine den_nextA (z6, z7, z8) ((sub_env (sube_cons rfl (sube_cons rfl (sube_cons rfl (sube_cons rfl (sube_cons rfl (sube_cons rfl (sube_nil)))))))))
    · refine den_code_exit ?_
      refine dene_out rfl ?_
      refine dene_loopA (by simp) ?_
      refine dene_to rfl ?_
      refine den_endA (z2α.1, z2α.2.1, z2α.2.2) ((sub_env (sube_cons rfl (sube_cons rfl (sube_nil)))))
  refine den_seq ?_
  refine den_region rfl ?_
  refine o_move rfl rfl guard_none (look_tmp rfl) (fun _ => rfl) ?_
  refine o_move rfl rfl guard_none (look_tmp rfl) (fun _ => rfl) ?_
  refine o_assign rfl rfl guard_none (look_tmp rfl) (fun _ => rfl) ?_
  refine o_assign rfl rfl guard_none (look_tmp rfl) (fun _ => rfl) ?_
  refine o_end ?_
  refine den_code_ret ?_
  exact dene_resI (z1α.1, z1α.2.1, z1α.2.2) (res2 rfl (rv_tmp rfl) (rv_tmp rfl)) (fun _ _ _ k => ato_pick [0, 1, 2, 3] rfl rfl k)

theorem law33_WallRuns_ok  (l_0 : (List T_wall_Owner)) (ops_1 : (List T_law33_Op)) : FunOk Try.prog 7 [⟨(T_wall_Owner_rep).slice, l_0, true⟩, ⟨(T_law33_Op_rep).slice, ops_1, true⟩] (law33_WallRuns l_0 ops_1) (Rep.bool) := by
  refine fun_ok Try.func7 rfl Try.ntmps7 rfl (all_cons rfl (all_cons rfl all_nil)) (fun w0 ok0 => ?_)
  refine den_seq ?_
  refine den_region rfl ?_
  refine o_assign rfl rfl guard_none look_bool (fun _ => rfl) ?_
  refine o_end ?_
  refine den_seq ?_
  refine den_seq ?_
  refine den_region rfl ?_
  refine o_call rfl rfl rfl callable29 (looks_nil) (law33_alive_ok) (fun z1 => ?_)
  refine o_not rfl rfl guard_none (look_tmp rfl) (fun _ => rfl) ?_
  refine o_end ?_
  refine den_cond (look_tmp rfl) ?_ ?_
  · refine den_seq ?_
    refine den_region rfl ?_
    refine o_assign rfl rfl guard_none look_bool (fun _ => rfl) ?_
    refine o_end ?_
    refine den_code_ret ?_
    refine dene_ret ?_
    exact dene_res (res1 rfl (rv_tmp rfl))
  · refine den_skip ?_
    refine den_seq ?_
    refine den_region rfl ?_
    refine o_move rfl rfl guard_none (look_tmp rfl) (fun _ => rfl) ?_
    refine o_weak (H' := [] ++ ([] ++ [])) (sub_pick [] rfl rfl) ?_
    refine o_callU rfl rfl rfl rfl rfl callable31 (looks_cons (look_tmp rfl) (fun _ => rfl) (looks_nil)) .nil (wall_New_ok l_0) (fun _ _ => (wr_c (wr_c (wr_c (wr_c wr_n))))) (fun z3α z2 => ?_)
    obtain ⟨⟨z4, z5⟩, z6, z7, z8⟩ := z3α
    refine o_weak (H' := [.obj true 0 0 (mrep z6 (Rep.str) (T_wall_class_rep)) z2.of, .obj true 0 0 (mrep z7 (T_wall_sight_rep) (Rep.int .i64)) z2.seen, .obj true 0 0 (mrep z8 (T_wall_share_rep) (Rep.int .i64)) z2.has, .obj true z4 z5 (.dat (T_wall_Wall_repo z6 z7 z8)) z2]) (sub_pick [0, 1, 2, 3] rfl rfl) ?_
    refine o_move rfl rfl guard_none (look_tmp rfl) (fun _ => rfl) ?_
    refine o_move rfl rfl guard_none (look_tmp rfl) (fun _ => rfl) ?_
    refine o_call rfl rfl rfl callable32 (looks_cons (look_tmp rfl) (fun _ => rfl) (looks_nil)) (law33_few_ok _) (fun z9 => ?_)
    refine o_weak (H' := [.obj true 0 0 (mrep z6 (Rep.str) (T_wall_class_rep)) z2.of, .obj true 0 0 (mrep z7 (T_wall_sight_rep) (Rep.int .i64)) z2.seen, .obj true 0 0 (mrep z8 (T_wall_share_rep) (Rep.int .i64)) z2.has, .obj true z4 z5 (.dat (T_wall_Wall_repo z6 z7 z8)) z2] ++ ([] ++ [])) (sub_pick [0, 1, 2, 3] rfl rfl) ?_
    refine o_callU rfl rfl rfl rfl rfl callable30 (looks_cons (look_tmp rfl) (fun _ => rfl) (looks_cons (look_tmp rfl) (fun _ => rfl) (looks_cons (look_nild (R := T_law33_sight_rep)) (fun _ => rfl) (looks_cons (look_tmp rfl) (fun _ => rfl) (looks_nil))))) .nil (law33_run_ok _ _ _ _ _ z2 l_0 ([] : (List T_law33_sight)) z9) (fun _ _ => (wr_c (wr_c (wr_c (wr_c wr_n))))) (fun z11α z10 => ?_)
    obtain ⟨z12, z13, z14⟩ := z11α
    refine o_weak (H' := [.obj true 0 0 (mrep z12 (Rep.str) (T_wall_class_rep)) z10.2.2.of, .obj true 0 0 (mrep z13 (T_wall_sight_rep) (Rep.int .i64)) z10.2.2.seen, .obj true 0 0 (mrep z14 (T_wall_share_rep) (Rep.int .i64)) z10.2.2.has, .obj true z4 z5 (.dat (T_wall_Wall_repo z12 z13 z14)) z10.2.2]) (sub_pick [0, 1, 2, 3] rfl rfl) ?_
    refine o_move rfl rfl guard_none (look_tmp rfl) (fun _ => rfl) ?_
    refine o_fst rfl rfl guard_none (look_tmp rfl) (fun _ => rfl) ?_
    refine o_snd rfl rfl guard_none (look_tmp rfl) (fun _ => rfl) ?_
    refine o_assign rfl rfl guard_none (look_tmp rfl) (fun _ => rfl) ?_
    refine o_assign rfl rfl guard_none (look_tmp rfl) (fun _ => rfl) ?_
    refine o_end ?_
    refine den_seq ?_
    refine den_region rfl ?_
    refine o_move rfl rfl guard_none (look_tmp rfl) (fun _ => rfl) ?_
    refine o_assign rfl rfl guard_none (look_tmp rfl) (fun _ => rfl) ?_
    refine o_end ?_
    refine den_code_ret ?_
    exact dene_res (res1 rfl (rv_tmp rfl))

theorem law33_WallNever_ok  (l_0 : (List T_wall_Owner)) (ops_1 : (List T_law33_Op)) (who_2 : Bytes) : FunOk Try.prog 8 [⟨(T_wall_Owner_rep).slice, l_0, true⟩, ⟨(T_law33_Op_rep).slice, ops_1, true⟩, ⟨Rep.str, who_2, true⟩] (law33_WallNever l_0 ops_1 who_2) (Rep.bool) := by
  refine fun_ok Try.func8 rfl Try.ntmps8 rfl (all_cons rfl (all_cons rfl (all_cons rfl all_nil))) (fun w0 ok0 => ?_)
  refine den_seq ?_
  refine den_region rfl ?_
  refine o_assign rfl rfl guard_none look_bool (fun _ => rfl) ?_
  refine o_end ?_
  refine den_seq ?_
  refine den_seq ?_
  refine den_region rfl ?_
  refine o_call rfl rfl rfl callable29 (looks_nil) (law33_alive_ok) (fun z1 => ?_)
  refine o_not rfl rfl guard_none (look_tmp rfl) (fun _ => rfl) ?_
  refine o_end ?_
  refine den_cond (look_tmp rfl) ?_ ?_
  · refine den_seq ?_
    refine den_region rfl ?_
    refine o_assign rfl rfl guard_none look_bool (fun _ => rfl) ?_
    refine o_end ?_
    refine den_code_ret ?_
    refine dene_ret ?_
    exact dene_res (res1 rfl (rv_tmp rfl))
  · refine den_skip ?_
    refine den_seq ?_
    refine den_region rfl ?_
    refine o_move rfl rfl guard_none (look_tmp rfl) (fun _ => rfl) ?_
    refine o_weak (H' := [] ++ ([] ++ [])) (sub_pick [] rfl rfl) ?_
    refine o_callU rfl rfl rfl rfl rfl callable31 (looks_cons (look_tmp rfl) (fun _ => rfl) (looks_nil)) .nil (wall_New_ok l_0) (fun _ _ => (wr_c (wr_c (wr_c (wr_c wr_n))))) (fun z3α z2 => ?_)
    obtain ⟨⟨z4, z5⟩, z6, z7, z8⟩ := z3α
    refine o_weak (H' := [.obj true 0 0 (mrep z6 (Rep.str) (T_wall_class_rep)) z2.of, .obj true 0 0 (mrep z7 (T_wall_sight_rep) (Rep.int .i64)) z2.seen, .obj true 0 0 (mrep z8 (T_wall_share_rep) (Rep.int .i64)) z2.has, .obj true z4 z5 (.dat (T_wall_Wall_repo z6 z7 z8)) z2]) (sub_pick [0, 1, 2, 3] rfl rfl) ?_
    refine o_assign rfl rfl guard_none (look_tmp rfl) (fun _ => rfl) ?_
    refine o_end ?_
    refine den_seq ?_
    refine den_region rfl ?_
    refine o_move rfl rfl guard_none (look_tmp rfl) (fun _ => rfl) ?_
    refine o_call rfl rfl rfl callable32 (looks_cons (look_tmp rfl) (fun _ => rfl) (looks_nil)) (law33_few_ok _) (fun z9 => ?_)
    refine o_assign rfl rfl guard_none (look_tmp rfl) (fun _ => rfl) ?_
    refine o_end ?_
    refine den_seq ?_
    refine den_seq ?_
    refine den_region rfl ?_
    refine o_assign rfl rfl guard_none (look_int rfl) (fun _ => rfl) ?_
    refine o_end ?_
    refine den_both (fun z10 => []) (fun z10 => []) ?_ (fun z10 => ?_)
    · refine den_block ?_
      refine den_loopA (A := (Value × Value × Value)) (law33_WallNever_L1b z9 l_0 who_2) (fun z11α z11 => [(8, ⟨Rep.int .i64, z11.1, true⟩), (0, ⟨(T_wall_Owner_rep).slice, l_0, true⟩), (1, ⟨(T_law33_Op_rep).slice, z9, true⟩), (2, ⟨Rep.str, who_2, true⟩), (7, ⟨Rep.addr, (z4, z5), true⟩)]) (fun z11α z11 => [.obj true 0 0 (mrep z11α.1 (Rep.str) (T_wall_class_rep)) z11.2.of, .obj true 0 0 (mrep z11α.2.1 (T_wall_sight_rep) (Rep.int .i64)) z11.2.seen, .obj true 0 0 (mrep z11α.2.2 (T_wall_share_rep) (Rep.int .i64)) z11.2.has, .obj true z4 z5 (.dat (T_wall_Wall_repo z11α.1 z11α.2.1 z11α.2.2)) z11.2]) (0, z2) (z6, z7, z8) (fun z11α z11 => ?_) ((sub_env (sube_cons rfl (sube_cons rfl (sube_cons rfl (sube_cons rfl (sube_cons rfl (sube_nil))))))))
      refine den_seq ?_
      refine den_seq ?_
      refine den_region rfl ?_
      refine o_move rfl rfl guard_none (look_tmp rfl) (fun _ => rfl) ?_
      refine o_move rfl rfl guard_none (look_tmp rfl) (fun _ => rfl) ?_
      refine o_llen Try.underlying59 rfl rfl guard_none (look_tmp rfl) (fun _ => rfl) ?_
      refine o_lss rfl rfl guard_none (look_tmp rfl) (look_tmp rfl) (fun _ => rfl) (fun _ => rfl) ?_
      refine o_end ?_
      refine den_cond (look_tmp rfl) ?_ ?_
      · refine den_skip ?_
        refine den_seq ?_
        refine den_block ?_
        refine den_seq ?_
        refine den_region rfl ?_
        refine o_move rfl rfl guard_none (look_tmp rfl) (fun _ => rfl) ?_
        refine o_move rfl rfl guard_none (look_tmp rfl) (fun _ => rfl) ?_
        refine o_iaddr Try.underlying59 type68 rfl rfl (look_tmp rfl) (look_tmp rfl) rfl rfl (fun z12 => ?_)
        refine o_load type68 rfl rfl guard_none (look_tmp rfl) (fun _ => rfl) ?_
        refine o_alloc zero68 rfl rfl (fun z13 => ?_)
        refine o_ostore type68 foc_self guard_none (look_tmp rfl) (fun _ => rfl) (look_tmp rfl) (fun _ => rfl) ?_
        refine o_end ?_
        refine den_seq ?_
        refine den_seq ?_
        refine den_region rfl ?_
        refine o_faddr field68_0 type3 (by decide) rfl rfl guard_none (look_tmp rfl) (fun _ => rfl) ?_
        refine o_oloadi 0 rfl type3 T_law33_Op_foc0 rfl guard_none (look_tmp rfl) (fun _ => rfl) ?_
        refine o_eql rfl rfl guard_none (look_tmp rfl) (look_int rfl) (fun _ => rfl) (fun _ => rfl) ?_
        refine o_end ?_
        refine den_bindA (A := (Value × Value × Value)) (fun z14α z14 => [(0, ⟨(T_wall_Owner_rep).slice, l_0, true⟩), (1, ⟨(T_law33_Op_rep).slice, z9, true⟩), (2, ⟨Rep.str, who_2, true⟩), (7, ⟨Rep.addr, (z4, z5), true⟩), (8, ⟨Rep.int .i64, z11.1, true⟩), (9, ⟨Rep.addr, (z13, 0), true⟩)]) (fun z14α z14 => [.obj true z13 0 (.dat T_law33_Op_rep) z12, .obj true 0 0 (mrep z14α.1 (Rep.str) (T_wall_class_rep)) z14.of, .obj true 0 0 (mrep z14α.2.1 (T_wall_sight_rep) (Rep.int .i64)) z14.seen, .obj true 0 0 (mrep z14α.2.2 (T_wall_share_rep) (Rep.int .i64)) z14.has, .obj true z4 z5 (.dat (T_wall_Wall_repo z14α.1 z14α.2.1 z14α.2.2)) z14]) ?_ (fun z14α z14 => ?_)
        · refine den_cond (look_tmp rfl) ?_ ?_
          · refine den_region rfl ?_
            refine o_move rfl rfl guard_none (look_tmp rfl) (fun _ => rfl) ?_
            refine o_faddr field68_1 type9 (by decide) rfl rfl guard_none (look_tmp rfl) (fun _ => rfl) ?_
            refine o_oloadi 0 rfl type9 T_law33_Op_foc1 rfl guard_none (look_tmp rfl) (fun _ => rfl) ?_
            refine o_weak (H' := [.obj true 0 0 (mrep z11α.1 (Rep.str) (T_wall_class_rep)) z11.2.of, .obj true 0 0 (mrep z11α.2.1 (T_wall_sight_rep) (Rep.int .i64)) z11.2.seen, .obj true 0 0 (mrep z11α.2.2 (T_wall_share_rep) (Rep.int .i64)) z11.2.has, .obj true z4 z5 (.dat (T_wall_Wall_repo z11α.1 z11α.2.1 z11α.2.2)) z11.2] ++ ([] ++ [.obj true z13 0 (.dat T_law33_Op_rep) z12])) (sub_pick [1, 2, 3, 4, 0] rfl rfl) ?_
            refine o_callU rfl rfl rfl rfl rfl callable33 (looks_cons (look_tmp rfl) (fun _ => rfl) (looks_cons (look_tmp rfl) (fun _ => rfl) (looks_nil))) .nil (wall_Wall_Forget_ok _ _ _ _ _ z11.2 z12.Who) (fun _ _ => (wr_c (wr_c (wr_c (wr_c wr_n))))) (fun z25α z24 => ?_)
            obtain ⟨z26, z27, z28⟩ := z25α
            refine o_weak (H' := [.obj true 0 0 (mrep z26 (Rep.str) (T_wall_class_rep)) z24.2.of, .obj true 0 0 (mrep z27 (T_wall_sight_rep) (Rep.int .i64)) z24.2.seen, .obj true 0 0 (mrep z28 (T_wall_share_rep) (Rep.int .i64)) z24.2.has, .obj true z4 z5 (.dat (T_wall_Wall_repo z26 z27 z28)) z24.2, .obj true z13 0 (.dat T_law33_Op_rep) z12]) (sub_pick [0, 1, 2, 3, 4] rfl rfl) ?_
            refine o_end ?_
            refine den_endA (z26, z27, z28) ((Sub.trans (sub_pick [4, 0, 1, 2, 3] rfl rfl) (sub_env (sube_cons rfl (sube_cons rfl (sube_cons rfl (sube_cons rfl (sube_cons rfl (sube_cons rfl (sube_nil))))))))))
          · refine den_region rfl ?_
            refine o_move rfl rfl guard_none (look_tmp rfl) (fun _ => rfl) ?_
            refine o_faddr field68_1 type9 (by decide) rfl rfl guard_none (look_tmp rfl) (fun _ => rfl) ?_
            refine o_oloadi 0 rfl type9 T_law33_Op_foc1 rfl guard_none (look_tmp rfl) (fun _ => rfl) ?_
            refine o_faddr field68_2 type9 (by decide) rfl rfl guard_none (look_tmp rfl) (fun _ => rfl) ?_
            refine o_oloadi 0 rfl type9 T_law33_Op_foc2 rfl guard_none (look_tmp rfl) (fun _ => rfl) ?_
            refine o_weak (H' := [.obj true 0 0 (mrep z11α.1 (Rep.str) (T_wall_class_rep)) z11.2.of, .obj true 0 0 (mrep z11α.2.1 (T_wall_sight_rep) (Rep.int .i64)) z11.2.seen, .obj true 0 0 (mrep z11α.2.2 (T_wall_share_rep) (Rep.int .i64)) z11.2.has, .obj true z4 z5 (.dat (T_wall_Wall_repo z11α.1 z11α.2.1 z11α.2.2)) z11.2] ++ ([] ++ [.obj true z13 0 (.dat T_law33_Op_rep) z12])) (sub_pick [1, 2, 3, 4, 0] rfl rfl) ?_
            refine o_callU rfl rfl rfl rfl rfl callable34 (looks_cons (look_tmp rfl) (fun _ => rfl) (looks_cons (look_tmp rfl) (fun _ => rfl) (looks_cons (look_tmp rfl) (fun _ => rfl) (looks_nil)))) .nil (wall_Wall_See_ok _ _ _ _ _ z11.2 z12.Who z12.Owner) (fun _ _ => (wr_c (wr_c (wr_c (wr_c wr_n))))) (fun z30α z29 => ?_)
            obtain ⟨z31, z32, z33⟩ := z30α
            refine o_weak (H' := [.obj true 0 0 (mrep z31 (Rep.str) (T_wall_class_rep)) z29.2.of, .obj true 0 0 (mrep z32 (T_wall_sight_rep) (Rep.int .i64)) z29.2.seen, .obj true 0 0 (mrep z33 (T_wall_share_rep) (Rep.int .i64)) z29.2.has, .obj true z4 z5 (.dat (T_wall_Wall_repo z31 z32 z33)) z29.2, .obj true z13 0 (.dat T_law33_Op_rep) z12]) (sub_pick [0, 1, 2, 3, 4] rfl rfl) ?_
            refine o_end ?_
            refine den_endA (z31, z32, z33) ((Sub.trans (sub_pick [4, 0, 1, 2, 3] rfl rfl) (sub_env (sube_cons rfl (sube_cons rfl (sube_cons rfl (sube_cons rfl (sube_cons rfl (sube_cons rfl (sube_nil))))))))))
        refine den_seq ?_
        refine den_region rfl ?_
        refine o_move rfl rfl guard_none (look_tmp rfl) (fun _ => rfl) ?_
        refine o_move rfl rfl guard_none (look_tmp rfl) (fun _ => rfl) ?_
        refine o_faddr field68_1 type9 (by decide) rfl rfl guard_none (look_tmp rfl) (fun _ => rfl) ?_
        refine o_oloadi 0 rfl type9 T_law33_Op_foc1 rfl guard_none (look_tmp rfl) (fun _ => rfl) ?_
        refine o_weak (H' := [] ++ ([.obj true 0 0 (mrep z14α.1 (Rep.str) (T_wall_class_rep)) z14.of, .obj true 0 0 (mrep z14α.2.1 (T_wall_sight_rep) (Rep.int .i64)) z14.seen, .obj true 0 0 (mrep z14α.2.2 (T_wall_share_rep) (Rep.int .i64)) z14.has, .obj true z4 z5 (.dat (T_wall_Wall_repo z14α.1 z14α.2.1 z14α.2.2)) z14] ++ [.obj true z13 0 (.dat T_law33_Op_rep) z12])) (sub_pick [1, 2, 3, 4, 0] rfl rfl) ?_
        refine o_callU rfl rfl rfl rfl rfl callable36 (looks_cons (look_tmp rfl) (fun _ => rfl) (looks_cons (look_tmp rfl) (fun _ => rfl) (looks_nil))) (.cons (.cons (.cons (.cons .nil)))) (wall_Wall_Seen_ok _ _ _ _ _ z14 z12.Who) (fun _ _ => (wr_v wr_n)) (fun z16α z15 => ?_)
        refine o_weak (H' := [.vec z16α (Rep.str) z15, .obj true 0 0 (mrep z14α.1 (Rep.str) (T_wall_class_rep)) z14.of, .obj true 0 0 (mrep z14α.2.1 (T_wall_sight_rep) (Rep.int .i64)) z14.seen, .obj true 0 0 (mrep z14α.2.2 (T_wall_share_rep) (Rep.int .i64)) z14.has, .obj true z4 z5 (.dat (T_wall_Wall_repo z14α.1 z14α.2.1 z14α.2.2)) z14, .obj true z13 0 (.dat T_law33_Op_rep) z12]) (sub_pick [0, 1, 2, 3, 4, 5] rfl rfl) ?_
        refine o_lend1 false rfl rfl rfl rfl guard_none callable35 (looksM_c (look_tmp rfl) (fun _ => rfl) (looksM_l 0 rfl (lookl_wholeg (.inl rfl) (look_tmp rfl) (fun _ => rfl)) (looksM_nil))) fl_bool (law33_clash_ok _ _) (fun z18 => ?_)
        refine o_move rfl rfl guard_none (look_tmp rfl) (fun _ => rfl) ?_
        refine o_move rfl rfl (guard_some rfl rfl rfl) (look_tmp rfl) (fun _ => rfl) ?_
        refine o_move rfl rfl (guard_some rfl rfl rfl) (look_tmp rfl) (fun _ => rfl) ?_
        refine o_move rfl rfl (guard_some rfl rfl rfl) (look_tmp rfl) (fun _ => rfl) ?_
        refine o_weak (H' := [] ++ ([.obj true 0 0 (mrep z14α.1 (Rep.str) (T_wall_class_rep)) z14.of, .obj true 0 0 (mrep z14α.2.1 (T_wall_sight_rep) (Rep.int .i64)) z14.seen, .obj true 0 0 (mrep z14α.2.2 (T_wall_share_rep) (Rep.int .i64)) z14.has, .obj true z4 z5 (.dat (T_wall_Wall_repo z14α.1 z14α.2.1 z14α.2.2)) z14] ++ [.vec z16α (Rep.str) z15, .obj true z13 0 (.dat T_law33_Op_rep) z12])) (sub_pick [1, 2, 3, 4, 0, 5] rfl rfl) ?_
        refine o_callX (its := []) ([] : (List Bytes)) (Value.slice none 0 0) rfl rfl rfl rfl (guard_some rfl rfl rfl) callable36 (looks_cons (look_tmp rfl) (fun h => h) (looks_cons (look_tmp rfl) (fun h => h) (looks_nil))) (.cons (.cons (.cons (.cons .nil)))) (fun_frozen (wall_Wall_Seen_ok _ _ _ _ _ z14 who_2)) (fun _ _ => wr_n) ?_ (fun z20α z19 => ?_)
        · exact fun _ => rfl
        refine o_weak (H' := [.obj true 0 0 (mrep z14α.1 (Rep.str) (T_wall_class_rep)) z14.of, .obj true 0 0 (mrep z14α.2.1 (T_wall_sight_rep) (Rep.int .i64)) z14.seen, .obj true 0 0 (mrep z14α.2.2 (T_wall_share_rep) (Rep.int .i64)) z14.has, .obj true z4 z5 (.dat (T_wall_Wall_repo z14α.1 z14α.2.1 z14α.2.2)) z14, .vec z16α (Rep.str) z15, .obj true z13 0 (.dat T_law33_Op_rep) z12]) (sub_pick [0, 1, 2, 3, 4, 5] rfl rfl) ?_
        refine o_callg rfl rfl rfl (guard_some rfl rfl rfl) callable35 (looks_cons (look_tmp rfl) (fun h => h) (looks_cons (look_tmp rfl) (fun h => h) (looks_nil))) (law33_clash_ok _ _) (fun z21 => ?_)
        refine o_pick rfl rfl guard_none (look_tmp rfl) look_bool (look_tmp rfl) (fun _ => rfl) (fun _ _ => rfl) (fun h1 h2 => pick_f ((fun _ => rfl) h1) h2) ?_
        refine o_move rfl rfl guard_none (look_tmp rfl) (fun _ => rfl) ?_
        refine o_move rfl rfl (guard_some rfl rfl rfl) (look_tmp rfl) (fun _ => rfl) ?_
        refine o_move rfl rfl (guard_some rfl rfl rfl) (look_tmp rfl) (fun _ => rfl) ?_
        refine o_move rfl rfl (guard_some rfl rfl rfl) (look_tmp rfl) (fun _ => rfl) ?_
        refine o_weak (H' := [] ++ ([.obj true 0 0 (mrep z14α.1 (Rep.str) (T_wall_class_rep)) z14.of, .obj true 0 0 (mrep z14α.2.1 (T_wall_sight_rep) (Rep.int .i64)) z14.seen, .obj true 0 0 (mrep z14α.2.2 (T_wall_share_rep) (Rep.int .i64)) z14.has, .obj true z4 z5 (.dat (T_wall_Wall_repo z14α.1 z14α.2.1 z14α.2.2)) z14] ++ [.vec z16α (Rep.str) z15, .obj true z13 0 (.dat T_law33_Op_rep) z12])) (sub_pick [0, 1, 2, 3, 4, 5] rfl rfl) ?_
        refine o_callX (its := []) (false : Bool) () rfl rfl rfl rfl (guard_some rfl rfl rfl) callable37 (looks_cons (look_tmp rfl) (fun h => h) (looks_cons (look_tmp rfl) (fun h => h) (looks_cons (look_tmp rfl) (fun h => h) (looks_nil)))) (.cons (.cons (.cons (.cons .nil)))) (wall_Wall_Leak_ok _ _ _ _ _ z14 who_2 who_2) (fun _ _ => wr_n) ?_ (fun z23α z22 => ?_)
        · exact fun _ => rfl
        refine o_weak (H' := [.obj true 0 0 (mrep z14α.1 (Rep.str) (T_wall_class_rep)) z14.of, .obj true 0 0 (mrep z14α.2.1 (T_wall_sight_rep) (Rep.int .i64)) z14.seen, .obj true 0 0 (mrep z14α.2.2 (T_wall_share_rep) (Rep.int .i64)) z14.has, .obj true z4 z5 (.dat (T_wall_Wall_repo z14α.1 z14α.2.1 z14α.2.2)) z14, .vec z16α (Rep.str) z15, .obj true z13 0 (.dat T_law33_Op_rep) z12]) (sub_pick [0, 1, 2, 3, 4, 5] rfl rfl) ?_
        refine o_pick rfl rfl guard_none (look_tmp rfl) look_bool (look_tmp rfl) (fun _ => rfl) (fun _ _ => rfl) (fun h1 h2 => pick_f ((fun _ => rfl) h1) h2) ?_
        refine o_end ?_
        refine den_cond (look_tmp rfl) ?_ ?_
        · refine den_seq ?_
          refine den_region rfl ?_
          refine o_assign rfl rfl guard_none look_bool (fun _ => rfl) ?_
          refine o_end ?_
          refine den_code_ret ?_
          refine dene_ret ?_
          refine dene_loopA (by simp) ?_
          refine dene_ret ?_
          refine dene_both (by simp) ?_
          refine dene_ret ?_
          exact dene_res (res1 rfl (rv_tmp rfl))
        · refine den_skip ?_
          refine den_blkend ?_
          refine den_region rfl ?_
          refine o_move rfl rfl guard_none (look_tmp rfl) (fun _ => rfl) ?_
          refine o_add rfl rfl guard_none (look_tmp rfl) (look_int rfl) (fun _ => rfl) (fun _ => rfl) ?_
          refine o_assign rfl rfl guard_none (look_tmp rfl) (fun _ => rfl) ?_
          refine o_end ?_
          refine den_nextA (z14α.1, z14α.2.1, z14α.2.2) ((Sub.trans (sub_pick [0, 1, 2, 3] rfl rfl) (sub_env (sube_cons rfl (sube_cons rfl (sube_cons rfl (sube_cons rfl (sube_cons rfl (sube_nil)))))))))
      · refine den_code_exit ?_
        refine dene_out rfl ?_
        refine dene_loopA (by simp) ?_
        refine dene_to rfl ?_
        refine den_endl ((Sub.trans (sub_pick [] rfl rfl) (sub_env (sube_nil))))
    refine den_seq ?_
    refine den_region rfl ?_
    refine o_assign rfl rfl guard_none look_bool (fun _ => rfl) ?_
    refine o_end ?_
    refine den_code_ret ?_
    exact dene_res (res1 rfl (rv_tmp rfl))

theorem law33_WallKeeps_ok  (l_0 : (List T_wall_Owner)) (ops_1 : (List T_law33_Op)) (who_2 : Bytes) (owner_3 : Bytes) (other_4 : Bytes) (third_5 : Bytes) : FunOk Try.prog 9 [⟨(T_wall_Owner_rep).slice, l_0, true⟩, ⟨(T_law33_Op_rep).slice, ops_1, true⟩, ⟨Rep.str, who_2, true⟩, ⟨Rep.str, owner_3, true⟩, ⟨Rep.str, other_4, true⟩, ⟨Rep.str, third_5, true⟩] (law33_WallKeeps l_0 ops_1 who_2 owner_3 other_4 third_5) (Rep.bool) := by
  refine fun_ok Try.func9 rfl Try.ntmps9 rfl (all_cons rfl (all_cons rfl (all_cons rfl (all_cons rfl (all_cons rfl (all_cons rfl all_nil)))))) (fun w0 ok0 => ?_)
  refine den_seq ?_
  refine den_region rfl ?_
  refine o_assign rfl rfl guard_none look_bool (fun _ => rfl) ?_
  refine o_end ?_
  refine den_seq ?_
  refine den_seq ?_
  refine den_region rfl ?_
  refine o_call rfl rfl rfl callable29 (looks_nil) (law33_alive_ok) (fun z1 => ?_)
  refine o_not rfl rfl guard_none (look_tmp rfl) (fun _ => rfl) ?_
  refine o_end ?_
  refine den_cond (look_tmp rfl) ?_ ?_
  · refine den_seq ?_
    refine den_region rfl ?_
    refine o_assign rfl rfl guard_none look_bool (fun _ => rfl) ?_
    refine o_end ?_
    refine den_code_ret ?_
    refine dene_ret ?_
    exact dene_res (res1 rfl (rv_tmp rfl))
  · refine den_skip ?_
    refine den_seq ?_
    refine den_region rfl ?_
    refine o_move rfl rfl guard_none (look_tmp rfl) (fun _ => rfl) ?_
    refine o_weak (H' := [] ++ ([] ++ [])) (sub_pick [] rfl rfl) ?_
    refine o_callU rfl rfl rfl rfl rfl callable31 (looks_cons (look_tmp rfl) (fun _ => rfl) (looks_nil)) .nil (wall_New_ok l_0) (fun _ _ => (wr_c (wr_c (wr_c (wr_c wr_n))))) (fun z3α z2 => ?_)
    obtain ⟨⟨z4, z5⟩, z6, z7, z8⟩ := z3α
    refine o_weak (H' := [.obj true 0 0 (mrep z6 (Rep.str) (T_wall_class_rep)) z2.of, .obj true 0 0 (mrep z7 (T_wall_sight_rep) (Rep.int .i64)) z2.seen, .obj true 0 0 (mrep z8 (T_wall_share_rep) (Rep.int .i64)) z2.has, .obj true z4 z5 (.dat (T_wall_Wall_repo z6 z7 z8)) z2]) (sub_pick [0, 1, 2, 3] rfl rfl) ?_
    refine o_assign rfl rfl guard_none (look_tmp rfl) (fun _ => rfl) ?_
    refine o_end ?_
    refine den_seq ?_
    refine den_region rfl ?_
    refine o_move rfl rfl guard_none (look_tmp rfl) (fun _ => rfl) ?_
    refine o_move rfl rfl guard_none (look_tmp rfl) (fun _ => rfl) ?_
    refine o_move rfl rfl guard_none (look_tmp rfl) (fun _ => rfl) ?_
    refine o_call rfl rfl rfl callable32 (looks_cons (look_tmp rfl) (fun _ => rfl) (looks_nil)) (law33_few_ok _) (fun z9 => ?_)
    refine o_weak (H' := [.obj true 0 0 (mrep z6 (Rep.str) (T_wall_class_rep)) z2.of, .obj true 0 0 (mrep z7 (T_wall_sight_rep) (Rep.int .i64)) z2.seen, .obj true 0 0 (mrep z8 (T_wall_share_rep) (Rep.int .i64)) z2.has, .obj true z4 z5 (.dat (T_wall_Wall_repo z6 z7 z8)) z2] ++ ([] ++ [])) (sub_pick [0, 1, 2, 3] rfl rfl) ?_
    refine o_callU rfl rfl rfl rfl rfl callable30 (looks_cons (look_tmp rfl) (fun _ => rfl) (looks_cons (look_tmp rfl) (fun _ => rfl) (looks_cons (look_nild (R := T_law33_sight_rep)) (fun _ => rfl) (looks_cons (look_tmp rfl) (fun _ => rfl) (looks_nil))))) .nil (law33_run_ok _ _ _ _ _ z2 l_0 ([] : (List T_law33_sight)) z9) (fun _ _ => (wr_c (wr_c (wr_c (wr_c wr_n))))) (fun z11α z10 => ?_)
    obtain ⟨z12, z13, z14⟩ := z11α
    refine o_weak (H' := [.obj true 0 0 (mrep z12 (Rep.str) (T_wall_class_rep)) z10.2.2.of, .obj true 0 0 (mrep z13 (T_wall_sight_rep) (Rep.int .i64)) z10.2.2.seen, .obj true 0 0 (mrep z14 (T_wall_share_rep) (Rep.int .i64)) z10.2.2.has, .obj true z4 z5 (.dat (T_wall_Wall_repo z12 z13 z14)) z10.2.2]) (sub_pick [0, 1, 2, 3] rfl rfl) ?_
    refine o_move rfl rfl guard_none (look_tmp rfl) (fun _ => rfl) ?_
    refine o_fst rfl rfl guard_none (look_tmp rfl) (fun _ => rfl) ?_
    refine o_snd rfl rfl guard_none (look_tmp rfl) (fun _ => rfl) ?_
    refine o_assign rfl rfl guard_none (look_tmp rfl) (fun _ => rfl) ?_
    refine o_assign rfl rfl guard_none (look_tmp rfl) (fun _ => rfl) ?_
    refine o_end ?_
    refine den_seq ?_
    refine den_region rfl ?_
    refine o_move rfl rfl guard_none (look_tmp rfl) (fun _ => rfl) ?_
    refine o_move rfl rfl guard_none (look_tmp rfl) (fun _ => rfl) ?_
    refine o_move rfl rfl guard_none (look_tmp rfl) (fun _ => rfl) ?_
    refine o_weak (H' := [] ++ ([.obj true 0 0 (mrep z12 (Rep.str) (T_wall_class_rep)) z10.2.2.of, .obj true 0 0 (mrep z13 (T_wall_sight_rep) (Rep.int .i64)) z10.2.2.seen, .obj true 0 0 (mrep z14 (T_wall_share_rep) (Rep.int .i64)) z10.2.2.has, .obj true z4 z5 (.dat (T_wall_Wall_repo z12 z13 z14)) z10.2.2] ++ [])) (sub_pick [0, 1, 2, 3] rfl rfl) ?_
    refine o_callU rfl rfl rfl rfl rfl callable38 (looks_cons (look_tmp rfl) (fun _ => rfl) (looks_cons (look_tmp rfl) (fun _ => rfl) (looks_cons (look_tmp rfl) (fun _ => rfl) (looks_nil)))) (.cons (.cons (.cons (.cons .nil)))) (wall_Wall_May_ok _ _ _ _ _ z10.2.2 who_2 owner_3) (fun _ _ => wr_n) (fun z16α z15 => ?_)
    refine o_weak (H' := [.obj true 0 0 (mrep z12 (Rep.str) (T_wall_class_rep)) z10.2.2.of, .obj true 0 0 (mrep z13 (T_wall_sight_rep) (Rep.int .i64)) z10.2.2.seen, .obj true 0 0 (mrep z14 (T_wall_share_rep) (Rep.int .i64)) z10.2.2.has, .obj true z4 z5 (.dat (T_wall_Wall_repo z12 z13 z14)) z10.2.2]) (sub_pick [0, 1, 2, 3] rfl rfl) ?_
    refine o_move rfl rfl guard_none (look_tmp rfl) (fun _ => rfl) ?_
    refine o_move rfl rfl guard_none (look_tmp rfl) (fun _ => rfl) ?_
    refine o_move rfl rfl guard_none (look_tmp rfl) (fun _ => rfl) ?_
    refine o_weak (H' := [] ++ ([.obj true 0 0 (mrep z12 (Rep.str) (T_wall_class_rep)) z10.2.2.of, .obj true 0 0 (mrep z13 (T_wall_sight_rep) (Rep.int .i64)) z10.2.2.seen, .obj true 0 0 (mrep z14 (T_wall_share_rep) (Rep.int .i64)) z10.2.2.has, .obj true z4 z5 (.dat (T_wall_Wall_repo z12 z13 z14)) z10.2.2] ++ [])) (sub_pick [0, 1, 2, 3] rfl rfl) ?_
    refine o_callU rfl rfl rfl rfl rfl callable38 (looks_cons (look_tmp rfl) (fun _ => rfl) (looks_cons (look_tmp rfl) (fun _ => rfl) (looks_cons (look_tmp rfl) (fun _ => rfl) (looks_nil)))) (.cons (.cons (.cons (.cons .nil)))) (wall_Wall_May_ok _ _ _ _ _ z10.2.2 who_2 other_4) (fun _ _ => wr_n) (fun z18α z17 => ?_)
    refine o_weak (H' := [.obj true 0 0 (mrep z12 (Rep.str) (T_wall_class_rep)) z10.2.2.of, .obj true 0 0 (mrep z13 (T_wall_sight_rep) (Rep.int .i64)) z10.2.2.seen, .obj true 0 0 (mrep z14 (T_wall_share_rep) (Rep.int .i64)) z10.2.2.has, .obj true z4 z5 (.dat (T_wall_Wall_repo z12 z13 z14)) z10.2.2]) (sub_pick [0, 1, 2, 3] rfl rfl) ?_
    refine o_move rfl rfl guard_none (look_tmp rfl) (fun _ => rfl) ?_
    refine o_move rfl rfl guard_none (look_tmp rfl) (fun _ => rfl) ?_
    refine o_move rfl rfl guard_none (look_tmp rfl) (fun _ => rfl) ?_
    refine o_weak (H' := [] ++ ([.obj true 0 0 (mrep z12 (Rep.str) (T_wall_class_rep)) z10.2.2.of, .obj true 0 0 (mrep z13 (T_wall_sight_rep) (Rep.int .i64)) z10.2.2.seen, .obj true 0 0 (mrep z14 (T_wall_share_rep) (Rep.int .i64)) z10.2.2.has, .obj true z4 z5 (.dat (T_wall_Wall_repo z12 z13 z14)) z10.2.2] ++ [])) (sub_pick [0, 1, 2, 3] rfl rfl) ?_
    refine o_callU rfl rfl rfl rfl rfl callable38 (looks_cons (look_tmp rfl) (fun _ => rfl) (looks_cons (look_tmp rfl) (fun _ => rfl) (looks_cons (look_tmp rfl) (fun _ => rfl) (looks_nil)))) (.cons (.cons (.cons (.cons .nil)))) (wall_Wall_May_ok _ _ _ _ _ z10.2.2 third_5 other_4) (fun _ _ => wr_n) (fun z20α z19 => ?_)
    refine o_weak (H' := [.obj true 0 0 (mrep z12 (Rep.str) (T_wall_class_rep)) z10.2.2.of, .obj true 0 0 (mrep z13 (T_wall_sight_rep) (Rep.int .i64)) z10.2.2.seen, .obj true 0 0 (mrep z14 (T_wall_share_rep) (Rep.int .i64)) z10.2.2.has, .obj true z4 z5 (.dat (T_wall_Wall_repo z12 z13 z14)) z10.2.2]) (sub_pick [0, 1, 2, 3] rfl rfl) ?_
    refine o_assign rfl rfl guard_none (look_tmp rfl) (fun _ => rfl) ?_
    refine o_assign rfl rfl guard_none (look_tmp rfl) (fun _ => rfl) ?_
    refine o_assign rfl rfl guard_none (look_tmp rfl) (fun _ => rfl) ?_
    refine o_end ?_
    refine den_seq ?_
    refine den_seq ?_
    refine den_region rfl ?_
    refine o_move rfl rfl guard_none (look_tmp rfl) (fun _ => rfl) ?_
    refine o_move rfl rfl guard_none (look_tmp rfl) (fun _ => rfl) ?_
    refine o_move rfl rfl guard_none (look_tmp rfl) (fun _ => rfl) ?_
    refine o_weak (H' := [.obj true 0 0 (mrep z12 (Rep.str) (T_wall_class_rep)) z10.2.2.of, .obj true 0 0 (mrep z13 (T_wall_sight_rep) (Rep.int .i64)) z10.2.2.seen, .obj true 0 0 (mrep z14 (T_wall_share_rep) (Rep.int .i64)) z10.2.2.has, .obj true z4 z5 (.dat (T_wall_Wall_repo z12 z13 z14)) z10.2.2] ++ ([] ++ [])) (sub_pick [0, 1, 2, 3] rfl rfl) ?_
    refine o_callU rfl rfl rfl rfl rfl callable34 (looks_cons (look_tmp rfl) (fun _ => rfl) (looks_cons (look_tmp rfl) (fun _ => rfl) (looks_cons (look_tmp rfl) (fun _ => rfl) (looks_nil)))) .nil (wall_Wall_See_ok _ _ _ _ _ z10.2.2 who_2 owner_3) (fun _ _ => (wr_c (wr_c (wr_c (wr_c wr_n))))) (fun z22α z21 => ?_)
    obtain ⟨z23, z24, z25⟩ := z22α
    refine o_weak (H' := [.obj true 0 0 (mrep z23 (Rep.str) (T_wall_class_rep)) z21.2.of, .obj true 0 0 (mrep z24 (T_wall_sight_rep) (Rep.int .i64)) z21.2.seen, .obj true 0 0 (mrep z25 (T_wall_share_rep) (Rep.int .i64)) z21.2.has, .obj true z4 z5 (.dat (T_wall_Wall_repo z23 z24 z25)) z21.2]) (sub_pick [0, 1, 2, 3] rfl rfl) ?_
    refine o_move rfl rfl guard_none (look_tmp rfl) (fun _ => rfl) ?_
    refine o_bneq Try.underlying4 rfl rfl guard_none (look_tmp rfl) (look_tmp rfl) (fun _ => rfl) (fun _ => rfl) ?_
    refine o_move rfl rfl guard_none (look_tmp rfl) (fun _ => rfl) ?_
    refine o_move rfl rfl (guard_some rfl rfl rfl) (look_tmp rfl) (fun _ => rfl) ?_
    refine o_move rfl rfl (guard_some rfl rfl rfl) (look_tmp rfl) (fun _ => rfl) ?_
    refine o_move rfl rfl (guard_some rfl rfl rfl) (look_tmp rfl) (fun _ => rfl) ?_
    refine o_weak (H' := [] ++ ([.obj true 0 0 (mrep z23 (Rep.str) (T_wall_class_rep)) z21.2.of, .obj true 0 0 (mrep z24 (T_wall_sight_rep) (Rep.int .i64)) z21.2.seen, .obj true 0 0 (mrep z25 (T_wall_share_rep) (Rep.int .i64)) z21.2.has, .obj true z4 z5 (.dat (T_wall_Wall_repo z23 z24 z25)) z21.2] ++ [])) (sub_pick [0, 1, 2, 3] rfl rfl) ?_
    refine o_callX (its := []) (false : Bool) () rfl rfl rfl rfl (guard_some rfl rfl rfl) callable38 (looks_cons (look_tmp rfl) (fun h => h) (looks_cons (look_tmp rfl) (fun h => h) (looks_cons (look_tmp rfl) (fun h => h) (looks_nil)))) (.cons (.cons (.cons (.cons .nil)))) (wall_Wall_May_ok _ _ _ _ _ z21.2 who_2 owner_3) (fun _ _ => wr_n) ?_ (fun z27α z26 => ?_)
    · exact fun _ => rfl
    refine o_weak (H' := [.obj true 0 0 (mrep z23 (Rep.str) (T_wall_class_rep)) z21.2.of, .obj true 0 0 (mrep z24 (T_wall_sight_rep) (Rep.int .i64)) z21.2.seen, .obj true 0 0 (mrep z25 (T_wall_share_rep) (Rep.int .i64)) z21.2.has, .obj true z4 z5 (.dat (T_wall_Wall_repo z23 z24 z25)) z21.2]) (sub_pick [0, 1, 2, 3] rfl rfl) ?_
    refine o_move rfl rfl (guard_some rfl rfl rfl) (look_tmp rfl) (fun _ => rfl) ?_
    refine o_bneq Try.underlying4 rfl rfl (guard_some rfl rfl rfl) (look_tmp rfl) (look_tmp rfl) (fun h => h) (fun h => h) ?_
    refine o_pick rfl rfl guard_none (look_tmp rfl) look_bool (look_tmp rfl) (fun _ => rfl) (fun _ _ => rfl) (fun h1 h2 => pick_f ((fun _ => rfl) h1) h2) ?_
    refine o_end ?_
    refine den_cond (look_tmp rfl) ?_ ?_
    · refine den_seq ?_
      refine den_region rfl ?_
      refine o_assign rfl rfl guard_none look_bool (fun _ => rfl) ?_
      refine o_end ?_
      refine den_code_ret ?_
      refine dene_ret ?_
      exact dene_res (res1 rfl (rv_tmp rfl))
    · refine den_skip ?_
      refine den_seq ?_
      refine den_seq ?_
      refine den_region rfl ?_
      refine o_move rfl rfl guard_none (look_tmp rfl) (fun _ => rfl) ?_
      refine o_move rfl rfl guard_none (look_tmp rfl) (fun _ => rfl) ?_
      refine o_sneq rfl rfl guard_none (look_tmp rfl) (look_tmp rfl) (fun _ => rfl) (fun _ => rfl) ?_
      refine o_move rfl rfl guard_none (look_tmp rfl) (fun _ => rfl) ?_
      refine o_move rfl rfl (guard_some rfl rfl rfl) (look_tmp rfl) (fun _ => rfl) ?_
      refine o_move rfl rfl (guard_some rfl rfl rfl) (look_tmp rfl) (fun _ => rfl) ?_
      refine o_move rfl rfl (guard_some rfl rfl rfl) (look_tmp rfl) (fun _ => rfl) ?_
      refine o_weak (H' := [] ++ ([.obj true 0 0 (mrep z23 (Rep.str) (T_wall_class_rep)) z21.2.of, .obj true 0 0 (mrep z24 (T_wall_sight_rep) (Rep.int .i64)) z21.2.seen, .obj true 0 0 (mrep z25 (T_wall_share_rep) (Rep.int .i64)) z21.2.has, .obj true z4 z5 (.dat (T_wall_Wall_repo z23 z24 z25)) z21.2] ++ [])) (sub_pick [0, 1, 2, 3] rfl rfl) ?_
      refine o_callX (its := []) (false : Bool) () rfl rfl rfl rfl (guard_some rfl rfl rfl) callable38 (looks_cons (look_tmp rfl) (fun h => h) (looks_cons (look_tmp rfl) (fun h => h) (looks_cons (look_tmp rfl) (fun h => h) (looks_nil)))) (.cons (.cons (.cons (.cons .nil)))) (wall_Wall_May_ok _ _ _ _ _ z21.2 third_5 other_4) (fun _ _ => wr_n) ?_ (fun z29α z28 => ?_)
      · exact fun _ => rfl
      refine o_weak (H' := [.obj true 0 0 (mrep z23 (Rep.str) (T_wall_class_rep)) z21.2.of, .obj true 0 0 (mrep z24 (T_wall_sight_rep) (Rep.int .i64)) z21.2.seen, .obj true 0 0 (mrep z25 (T_wall_share_rep) (Rep.int .i64)) z21.2.has, .obj true z4 z5 (.dat (T_wall_Wall_repo z23 z24 z25)) z21.2]) (sub_pick [0, 1, 2, 3] rfl rfl) ?_
      refine o_move rfl rfl (guard_some rfl rfl rfl) (look_tmp rfl) (fun _ => rfl) ?_
      refine o_bneq Try.underlying4 rfl rfl (guard_some rfl rfl rfl) (look_tmp rfl) (look_tmp rfl) (fun h => h) (fun h => h) ?_
      refine o_pick rfl rfl guard_none (look_tmp rfl) (look_tmp rfl) look_bool (fun _ => rfl) (fun h1 h2 => pick_t ((fun _ => rfl) h1) h2) (fun _ _ => rfl) ?_
      refine o_end ?_
      refine den_cond (look_tmp rfl) ?_ ?_
      · refine den_seq ?_
        refine den_region rfl ?_
        refine o_assign rfl rfl guard_none look_bool (fun _ => rfl) ?_
        refine o_end ?_
        refine den_code_ret ?_
        refine dene_ret ?_
        exact dene_res (res1 rfl (rv_tmp rfl))
      · refine den_skip ?_
        refine den_seq ?_
        refine den_region rfl ?_
        refine o_move rfl rfl guard_none (look_tmp rfl) (fun _ => rfl) ?_
        refine o_move rfl rfl guard_none (look_tmp rfl) (fun _ => rfl) ?_
        refine o_move rfl rfl (guard_some rfl rfl rfl) (look_tmp rfl) (fun _ => rfl) ?_
        refine o_move rfl rfl (guard_some rfl rfl rfl) (look_tmp rfl) (fun _ => rfl) ?_
        refine o_move rfl rfl (guard_some rfl rfl rfl) (look_tmp rfl) (fun _ => rfl) ?_
        refine o_weak (H' := [] ++ ([.obj true 0 0 (mrep z23 (Rep.str) (T_wall_class_rep)) z21.2.of, .obj true 0 0 (mrep z24 (T_wall_sight_rep) (Rep.int .i64)) z21.2.seen, .obj true 0 0 (mrep z25 (T_wall_share_rep) (Rep.int .i64)) z21.2.has, .obj true z4 z5 (.dat (T_wall_Wall_repo z23 z24 z25)) z21.2] ++ [])) (sub_pick [0, 1, 2, 3] rfl rfl) ?_
        refine o_callX (its := []) (false : Bool) () rfl rfl rfl rfl (guard_some rfl rfl rfl) callable38 (looks_cons (look_tmp rfl) (fun h => h) (looks_cons (look_tmp rfl) (fun h => h) (looks_cons (look_tmp rfl) (fun h => h) (looks_nil)))) (.cons (.cons (.cons (.cons .nil)))) (wall_Wall_May_ok _ _ _ _ _ z21.2 who_2 other_4) (fun _ _ => wr_n) ?_ (fun z31α z30 => ?_)
        · exact fun _ => rfl
        refine o_weak (H' := [.obj true 0 0 (mrep z23 (Rep.str) (T_wall_class_rep)) z21.2.of, .obj true 0 0 (mrep z24 (T_wall_sight_rep) (Rep.int .i64)) z21.2.seen, .obj true 0 0 (mrep z25 (T_wall_share_rep) (Rep.int .i64)) z21.2.has, .obj true z4 z5 (.dat (T_wall_Wall_repo z23 z24 z25)) z21.2]) (sub_pick [0, 1, 2, 3] rfl rfl) ?_
        refine o_move rfl rfl (guard_some rfl rfl rfl) (look_tmp rfl) (fun _ => rfl) ?_
        refine o_move rfl rfl (guard_some rfl rfl rfl) (look_tmp rfl) (fun h => h) ?_
        refine o_move rfl rfl (guard_some rfl rfl rfl) (look_tmp rfl) (fun _ => rfl) ?_
        refine o_move rfl rfl (guard_some rfl rfl rfl) (look_tmp rfl) (fun h => h) ?_
        refine o_move rfl rfl (guard_some rfl rfl rfl) (look_tmp rfl) (fun _ => rfl) ?_
        refine o_move rfl rfl (guard_some rfl rfl rfl) (look_tmp rfl) (fun _ => rfl) ?_
        refine o_move rfl rfl (guard_some rfl rfl rfl) (look_tmp rfl) (fun _ => rfl) ?_
        refine o_callg rfl rfl rfl (guard_some rfl rfl rfl) callable39 (looks_cons (look_tmp rfl) (fun h => h) (looks_cons (look_tmp rfl) (fun h => h) (looks_cons (look_tmp rfl) (fun h => h) (looks_nil)))) (law33_foes_ok _ _ _) (fun z32 => ?_)
        refine o_pick rfl rfl (guard_some rfl rfl rfl) (look_tmp rfl) (look_tmp rfl) look_bool (fun h => h) (fun h1 h2 => pick_t ((fun h => h) h1) h2) (fun _ _ => rfl) ?_
        refine o_not rfl rfl (guard_some rfl rfl rfl) (look_tmp rfl) (fun h => h) ?_
        refine o_pick rfl rfl (guard_some rfl rfl rfl) (look_tmp rfl) (look_tmp rfl) look_bool (fun h => h) (fun h1 h2 => pick_t ((fun h => h) h1) h2) (fun _ _ => rfl) ?_
        refine o_beql Try.underlying4 rfl rfl (guard_some rfl rfl rfl) (look_tmp rfl) (look_tmp rfl) (fun h => h) (fun h => h) ?_
        refine o_pick rfl rfl guard_none (look_tmp rfl) (look_tmp rfl) look_bool (fun _ => rfl) (fun h1 h2 => pick_t ((fun _ => rfl) h1) h2) (fun _ _ => rfl) ?_
        refine o_assign rfl rfl guard_none (look_tmp rfl) (fun _ => rfl) ?_
        refine o_lt (fun z33 => ?_)
        refine o_end ?_
        refine den_code_ret ?_
        exact dene_res (res1 rfl (rv_tmp rfl))

theorem maps_Clone_65_ok (val0 : Value) (xs : (Option (List (Bytes × T_wall_class)))) : FunOkI Try.prog 65 [⟨.val1, val0, true⟩] [.obj false 0 0 (mrep val0 (Rep.str) (T_wall_class_rep)) xs] (maps_Clone_65 xs) (Rep.val1) (fun (α : Value) (y : (Option (List (Bytes × T_wall_class)))) => α) (fun α y => [.obj true 0 0 (mrep α (Rep.str) (T_wall_class_rep)) y]) := mclone_any sh_laysC65 rfl val0 xs

theorem maps_Clone_66_ok (val0 : Value) (xs : (Option (List (T_wall_sight × Int)))) : FunOkI Try.prog 66 [⟨.val1, val0, true⟩] [.obj false 0 0 (mrep val0 (T_wall_sight_rep) (Rep.int .i64)) xs] (maps_Clone_66 xs) (Rep.val1) (fun (α : Value) (y : (Option (List (T_wall_sight × Int)))) => α) (fun α y => [.obj true 0 0 (mrep α (T_wall_sight_rep) (Rep.int .i64)) y]) := mclone_any sh_laysC66 rfl val0 xs

theorem maps_Clone_67_ok (val0 : Value) (xs : (Option (List (T_wall_share × Int)))) : FunOkI Try.prog 67 [⟨.val1, val0, true⟩] [.obj false 0 0 (mrep val0 (T_wall_share_rep) (Rep.int .i64)) xs] (maps_Clone_67 xs) (Rep.val1) (fun (α : Value) (y : (Option (List (T_wall_share × Int)))) => α) (fun α y => [.obj true 0 0 (mrep α (T_wall_share_rep) (Rep.int .i64)) y]) := mclone_any sh_laysC67 rfl val0 xs

set_option maxHeartbeats 1000000 in
theorem wall_Wall_Clone_ok (blk0 : Nat) (off0 : Nat) (val0_0 : Value) (val0_1 : Value) (val0_2 : Value) (w_0 : T_wall_Wall) : FunOkI Try.prog 40 [⟨.addr, (blk0, off0), true⟩] [.obj false 0 0 (mrep val0_0 (Rep.str) (T_wall_class_rep)) w_0.of, .obj false 0 0 (mrep val0_1 (T_wall_sight_rep) (Rep.int .i64)) w_0.seen, .obj false 0 0 (mrep val0_2 (T_wall_share_rep) (Rep.int .i64)) w_0.has, .obj false blk0 off0 (.dat (T_wall_Wall_repo val0_0 val0_1 val0_2)) w_0] (wall_Wall_Clone w_0) (Rep.optr) (fun (α : ((Nat × Nat) × Value × Value × Value)) (y : (Option T_wall_Wall)) => (y.map fun _ => α.1)) (fun α y => (optL y fun q => [.obj true 0 0 (mrep α.2.1 (Rep.str) (T_wall_class_rep)) q.of, .obj true 0 0 (mrep α.2.2.1 (T_wall_sight_rep) (Rep.int .i64)) q.seen, .obj true 0 0 (mrep α.2.2.2 (T_wall_share_rep) (Rep.int .i64)) q.has, .obj true α.1.1 α.1.2 (.dat (T_wall_Wall_repo α.2.1 α.2.2.1 α.2.2.2)) q]) ++ []) := by
  refine fun_okI Try.func40 rfl Try.ntmps40 rfl (all_cons rfl all_nil) (fun w0 ok0 M => ?_)
  refine den_seq ?_
  refine den_region rfl ?_
  refine o_assign rfl rfl guard_none look_nilp (fun _ => rfl) ?_
  refine o_end ?_
  refine den_seq ?_
  refine den_seq ?_
  refine den_region rfl ?_
  refine o_move rfl rfl guard_none (look_tmp rfl) (fun _ => rfl) ?_
  refine o_weak (H' := [] ++ ([.obj false 0 0 (mrep val0_0 (Rep.str) (T_wall_class_rep)) w_0.of, .obj false 0 0 (mrep val0_1 (T_wall_sight_rep) (Rep.int .i64)) w_0.seen, .obj false 0 0 (mrep val0_2 (T_wall_share_rep) (Rep.int .i64)) w_0.has, .obj false blk0 off0 (.dat (T_wall_Wall_repo val0_0 val0_1 val0_2)) w_0] ++ [])) (sub_pick [0, 1, 2, 3] rfl rfl) ?_
  refine o_callU rfl rfl rfl rfl rfl callable63 (looks_cons (look_tmp rfl) (fun _ => rfl) (looks_nil)) (.cons (.cons (.cons (.cons .nil)))) (wall_Wall_made_ok _ _ _ _ _ w_0) (fun _ _ => wr_n) (fun z2α z1 => ?_)
  refine o_weak (H' := [.obj false 0 0 (mrep val0_0 (Rep.str) (T_wall_class_rep)) w_0.of, .obj false 0 0 (mrep val0_1 (T_wall_sight_rep) (Rep.int .i64)) w_0.seen, .obj false 0 0 (mrep val0_2 (T_wall_share_rep) (Rep.int .i64)) w_0.has, .obj false blk0 off0 (.dat (T_wall_Wall_repo val0_0 val0_1 val0_2)) w_0]) (sub_pick [0, 1, 2, 3] rfl rfl) ?_
  refine o_not rfl rfl guard_none (look_tmp rfl) (fun _ => rfl) ?_
  refine o_end ?_
  refine den_cond (look_tmp rfl) ?_ ?_
  · refine den_seq ?_
    refine den_region rfl ?_
    refine o_assign rfl rfl guard_none look_nilp (fun _ => rfl) ?_
    refine o_end ?_
    refine den_code_ret ?_
    refine dene_ret ?_
    exact dene_resI ((0, 0), (Value.slice none 0 0), (Value.slice none 0 0), (Value.slice none 0 0)) (res1 rfl (rv_onil rfl)) (fun _ _ _ k => ato_pick [] rfl rfl k)
  · refine den_skip ?_
    refine den_seq ?_
    refine den_open (fun z4 h_z4 => ?_)
    refine den_open (fun z6 h_z6 => ?_)
    refine den_open (fun z8 h_z8 => ?_)
    have hB : ∀ (z3α : (Value × Value × Value × Nat)) (S : Nat → Bool) (b4 b9 b14 b16 : Bool), S 4 = b4 → S 9 = b9 → S 14 = b14 → S 16 = b16 → (([.obj false 0 0 (mrep val0_0 (Rep.str) (T_wall_class_rep)) w_0.of, .obj false 0 0 (mrep val0_1 (T_wall_sight_rep) (Rep.int .i64)) w_0.seen, .obj false 0 0 (mrep val0_2 (T_wall_share_rep) (Rep.int .i64)) w_0.has, .obj false blk0 off0 (.dat (T_wall_Wall_repo val0_0 val0_1 val0_2)) w_0, (cond (S 4) (.obj true 0 0 (mrep (z3α.1) (Rep.str) (T_wall_class_rep)) z4) (.gone)), (cond (S 9) (.obj true 0 0 (mrep (z3α.2.1) (T_wall_sight_rep) (Rep.int .i64)) z6) (.gone)), (cond (S 14) (.obj true 0 0 (mrep (z3α.2.2.1) (T_wall_share_rep) (Rep.int .i64)) z8) (.gone)), (cond (S 16) (.obj true (z3α.2.2.2) 0 (.dat (T_wall_Wall_repo (z3α.1) (z3α.2.1) (z3α.2.2.1))) (⟨z4, z6, z8⟩ : T_wall_Wall)) (.gone))] : List Go.Eng.Item)) = ([.obj false 0 0 (mrep val0_0 (Rep.str) (T_wall_class_rep)) w_0.of, .obj false 0 0 (mrep val0_1 (T_wall_sight_rep) (Rep.int .i64)) w_0.seen, .obj false 0 0 (mrep val0_2 (T_wall_share_rep) (Rep.int .i64)) w_0.has, .obj false blk0 off0 (.dat (T_wall_Wall_repo val0_0 val0_1 val0_2)) w_0, (cond b4 (.obj true 0 0 (mrep (z3α.1) (Rep.str) (T_wall_class_rep)) z4) (.gone)), (cond b9 (.obj true 0 0 (mrep (z3α.2.1) (T_wall_sight_rep) (Rep.int .i64)) z6) (.gone)), (cond b14 (.obj true 0 0 (mrep (z3α.2.2.1) (T_wall_share_rep) (Rep.int .i64)) z8) (.gone)), (cond b16 (.obj true (z3α.2.2.2) 0 (.dat (T_wall_Wall_repo (z3α.1) (z3α.2.1) (z3α.2.2.1))) (⟨z4, z6, z8⟩ : T_wall_Wall)) (.gone))] : List Go.Eng.Item) := fun z3α S b4 b9 b14 b16 h4 h9 h14 h16 => by subst h4; subst h9; subst h14; subst h16; rfl
    refine den_weak sub_gone ?_
    refine den_weak sub_gone ?_
    refine den_weak sub_gone ?_
    refine den_weak sub_gone ?_
    refine den_weak (sub_pick (H' := [.obj false 0 0 (mrep val0_0 (Rep.str) (T_wall_class_rep)) w_0.of, .obj false 0 0 (mrep val0_1 (T_wall_sight_rep) (Rep.int .i64)) w_0.seen, .obj false 0 0 (mrep val0_2 (T_wall_share_rep) (Rep.int .i64)) w_0.has, .obj false blk0 off0 (.dat (T_wall_Wall_repo val0_0 val0_1 val0_2)) w_0, .gone, .gone, .gone, .gone]) [4, 5, 6, 7, 0, 1, 2, 3] rfl rfl) ?_
    refine den_drawA (A := (Value × Value × Value × Nat)) (H' := fun z3α => [.obj false 0 0 (mrep val0_0 (Rep.str) (T_wall_class_rep)) w_0.of, .obj false 0 0 (mrep val0_1 (T_wall_sight_rep) (Rep.int .i64)) w_0.seen, .obj false 0 0 (mrep val0_2 (T_wall_share_rep) (Rep.int .i64)) w_0.has, .obj false blk0 off0 (.dat (T_wall_Wall_repo val0_0 val0_1 val0_2)) w_0, .obj true 0 0 (mrep (z3α.1) (Rep.str) (T_wall_class_rep)) z4, .obj true 0 0 (mrep (z3α.2.1) (T_wall_sight_rep) (Rep.int .i64)) z6, .obj true 0 0 (mrep (z3α.2.2.1) (T_wall_share_rep) (Rep.int .i64)) z8, .obj true (z3α.2.2.2) 0 (.dat (T_wall_Wall_repo (z3α.1) (z3α.2.1) (z3α.2.2.1))) (⟨z4, z6, z8⟩ : T_wall_Wall)]) (fun z3α => [(6, ⟨Rep.addr, (blk0, off0), true⟩), (7, ⟨Rep.addr, (blk0, off0), true⟩), (8, ⟨Rep.addr, (blk0, off0), true⟩), (9, ⟨Rep.val1, val0_0, true⟩), (10, ⟨Rep.val1, z3α.1, true⟩), (11, ⟨Rep.addr, (blk0, off0), true⟩), (12, ⟨Rep.addr, (blk0, off0), true⟩), (13, ⟨Rep.addr, (blk0, off0 + 1), true⟩), (14, ⟨Rep.val1, val0_1, true⟩), (15, ⟨Rep.val1, z3α.2.1, true⟩), (16, ⟨Rep.addr, (blk0, off0), true⟩), (17, ⟨Rep.addr, (blk0, off0), true⟩), (18, ⟨Rep.addr, (blk0, off0 + 2), true⟩), (19, ⟨Rep.val1, val0_2, true⟩), (20, ⟨Rep.val1, z3α.2.2.1, true⟩), (21, ⟨(T_wall_Wall_repo (z3α.1) (z3α.2.1) (z3α.2.2.1)), (⟨z4, z6, z8⟩ : T_wall_Wall), true⟩), (22, ⟨Rep.addr, (z3α.2.2.2, 0), true⟩), (2, ⟨Rep.addr, (z3α.2.2.2, 0), true⟩)]) (fun z3α S => [.obj false 0 0 (mrep val0_0 (Rep.str) (T_wall_class_rep)) w_0.of, .obj false 0 0 (mrep val0_1 (T_wall_sight_rep) (Rep.int .i64)) w_0.seen, .obj false 0 0 (mrep val0_2 (T_wall_share_rep) (Rep.int .i64)) w_0.has, .obj false blk0 off0 (.dat (T_wall_Wall_repo val0_0 val0_1 val0_2)) w_0, (cond (S 4) (.obj true 0 0 (mrep (z3α.1) (Rep.str) (T_wall_class_rep)) z4) (.gone)), (cond (S 9) (.obj true 0 0 (mrep (z3α.2.1) (T_wall_sight_rep) (Rep.int .i64)) z6) (.gone)), (cond (S 14) (.obj true 0 0 (mrep (z3α.2.2.1) (T_wall_share_rep) (Rep.int .i64)) z8) (.gone)), (cond (S 16) (.obj true (z3α.2.2.2) 0 (.dat (T_wall_Wall_repo (z3α.1) (z3α.2.1) (z3α.2.2.1))) (⟨z4, z6, z8⟩ : T_wall_Wall)) (.gone))]) ((Value.slice none 0 0), (Value.slice none 0 0), (Value.slice none 0 0), 0) mixed (fun _ => rfl) rfl rfl (fun z3α S hS => hB z3α S true true true true (hS 4 (by decide)) (hS 9 (by decide)) (hS 14 (by decide)) (hS 16 (by decide))) ⟨?_, ?_, ?_, ?_, ?_, ?_, ?_, ?_, ?_, ?_, ?_, ?_, ?_, ?_, ?_, ?_, ?_, ?_, trivial⟩ (fun z3α => ?_)
    · intro z3α S hc hk hp
      have e4 : S 4 = false := (not_yet (j := 4) (q := 0) hc (not_yet (j := 3) (q := 0) hc (not_yet (j := 2) (q := 0) hc (not_yet (j := 1) (q := 0) hc hk rfl rfl rfl rfl) rfl rfl rfl rfl) rfl rfl rfl rfl) rfl rfl rfl rfl)
      have e9 : S 9 = false := (not_yet (j := 9) (q := 1) hc (not_yet (j := 4) (q := 0) hc (not_yet (j := 3) (q := 0) hc (not_yet (j := 2) (q := 0) hc (not_yet (j := 1) (q := 0) hc hk rfl rfl rfl rfl) rfl rfl rfl rfl) rfl rfl rfl rfl) rfl rfl rfl rfl) rfl rfl rfl rfl)
      have e14 : S 14 = false := (not_yet (j := 14) (q := 1) hc (not_yet (j := 9) (q := 1) hc (not_yet (j := 4) (q := 0) hc (not_yet (j := 3) (q := 0) hc (not_yet (j := 2) (q := 0) hc (not_yet (j := 1) (q := 0) hc hk rfl rfl rfl rfl) rfl rfl rfl rfl) rfl rfl rfl rfl) rfl rfl rfl rfl) rfl rfl rfl rfl) rfl rfl rfl rfl)
      have e16 : S 16 = false := (not_yet (j := 16) (q := 0) hc (not_yet (j := 15) (q := 0) hc (not_yet (j := 4) (q := 0) hc (not_yet (j := 3) (q := 0) hc (not_yet (j := 2) (q := 0) hc (not_yet (j := 1) (q := 0) hc hk rfl rfl rfl rfl) rfl rfl rfl rfl) rfl rfl rfl rfl) rfl rfl rfl rfl) rfl rfl rfl rfl) rfl rfl rfl rfl)
      refine eq_H (H' := [.obj false 0 0 (mrep val0_0 (Rep.str) (T_wall_class_rep)) w_0.of, .obj false 0 0 (mrep val0_1 (T_wall_sight_rep) (Rep.int .i64)) w_0.seen, .obj false 0 0 (mrep val0_2 (T_wall_share_rep) (Rep.int .i64)) w_0.has, .obj false blk0 off0 (.dat (T_wall_Wall_repo val0_0 val0_1 val0_2)) w_0, .gone, .gone, .gone, .gone]) (by first | exact hB z3α S false false false false e4 e9 e14 e16 | (have q := hB z3α S false false false false e4 e9 e14 e16; simp only [cond_true, cond_false] at q; exact q)) ?_
      refine o_move rfl rfl guard_none (look_o rfl rfl) (fun _ => rfl) ?_
      apply h_endA (α := z3α) (z3α.1, z3α.2.1, z3α.2.2.1, z3α.2.2.2)
      · exact (.same (.same (.same (.same (.same (.same (.same (.same (.same (.same (.same (.same (.same (.same (.same (.same (.same (.same .nil))))))))))))))))))
      · exact rfl
      · exact rfl
      · exact rfl
      · exact hB (z3α.1, z3α.2.1, z3α.2.2.1, z3α.2.2.2) (fun k => S k || Nat.beq k 0) false false false false (or_f e4 rfl) (or_f e9 rfl) (or_f e14 rfl) (or_f e16 rfl)
    · intro z3α S hc hk hp
      have e4 : S 4 = false := (not_yet (j := 4) (q := 0) hc (not_yet (j := 3) (q := 0) hc (not_yet (j := 2) (q := 0) hc hk rfl rfl rfl rfl) rfl rfl rfl rfl) rfl rfl rfl rfl)
      have e9 : S 9 = false := (not_yet (j := 9) (q := 1) hc (not_yet (j := 4) (q := 0) hc (not_yet (j := 3) (q := 0) hc (not_yet (j := 2) (q := 0) hc hk rfl rfl rfl rfl) rfl rfl rfl rfl) rfl rfl rfl rfl) rfl rfl rfl rfl)
      have e14 : S 14 = false := (not_yet (j := 14) (q := 1) hc (not_yet (j := 9) (q := 1) hc (not_yet (j := 4) (q := 0) hc (not_yet (j := 3) (q := 0) hc (not_yet (j := 2) (q := 0) hc hk rfl rfl rfl rfl) rfl rfl rfl rfl) rfl rfl rfl rfl) rfl rfl rfl rfl) rfl rfl rfl rfl)
      have e16 : S 16 = false := (not_yet (j := 16) (q := 0) hc (not_yet (j := 15) (q := 0) hc (not_yet (j := 4) (q := 0) hc (not_yet (j := 3) (q := 0) hc (not_yet (j := 2) (q := 0) hc hk rfl rfl rfl rfl) rfl rfl rfl rfl) rfl rfl rfl rfl) rfl rfl rfl rfl) rfl rfl rfl rfl)
      refine eq_H (H' := [.obj false 0 0 (mrep val0_0 (Rep.str) (T_wall_class_rep)) w_0.of, .obj false 0 0 (mrep val0_1 (T_wall_sight_rep) (Rep.int .i64)) w_0.seen, .obj false 0 0 (mrep val0_2 (T_wall_share_rep) (Rep.int .i64)) w_0.has, .obj false blk0 off0 (.dat (T_wall_Wall_repo val0_0 val0_1 val0_2)) w_0, .gone, .gone, .gone, .gone]) (by first | exact hB z3α S false false false false e4 e9 e14 e16 | (have q := hB z3α S false false false false e4 e9 e14 e16; simp only [cond_true, cond_false] at q; exact q)) ?_
      refine o_nilc rfl rfl guard_none (look_d rfl rfl (pr hp 0 rfl rfl)) (fun _ => rfl) ?_
      apply h_endA (α := z3α) (z3α.1, z3α.2.1, z3α.2.2.1, z3α.2.2.2)
      · exact (.same (.same (.same (.same (.same (.same (.same (.same (.same (.same (.same (.same (.same (.same (.same (.same (.same (.same .nil))))))))))))))))))
      · exact rfl
      · exact rfl
      · exact rfl
      · exact hB (z3α.1, z3α.2.1, z3α.2.2.1, z3α.2.2.2) (fun k => S k || Nat.beq k 1) false false false false (or_f e4 rfl) (or_f e9 rfl) (or_f e14 rfl) (or_f e16 rfl)
    · intro z3α S hc hk hp
      have e4 : S 4 = false := (not_yet (j := 4) (q := 0) hc (not_yet (j := 3) (q := 0) hc hk rfl rfl rfl rfl) rfl rfl rfl rfl)
      have e9 : S 9 = false := (not_yet (j := 9) (q := 1) hc (not_yet (j := 4) (q := 0) hc (not_yet (j := 3) (q := 0) hc hk rfl rfl rfl rfl) rfl rfl rfl rfl) rfl rfl rfl rfl)
      have e14 : S 14 = false := (not_yet (j := 14) (q := 1) hc (not_yet (j := 9) (q := 1) hc (not_yet (j := 4) (q := 0) hc (not_yet (j := 3) (q := 0) hc hk rfl rfl rfl rfl) rfl rfl rfl rfl) rfl rfl rfl rfl) rfl rfl rfl rfl)
      have e16 : S 16 = false := (not_yet (j := 16) (q := 0) hc (not_yet (j := 15) (q := 0) hc (not_yet (j := 4) (q := 0) hc (not_yet (j := 3) (q := 0) hc hk rfl rfl rfl rfl) rfl rfl rfl rfl) rfl rfl rfl rfl) rfl rfl rfl rfl)
      refine eq_H (H' := [.obj false 0 0 (mrep val0_0 (Rep.str) (T_wall_class_rep)) w_0.of, .obj false 0 0 (mrep val0_1 (T_wall_sight_rep) (Rep.int .i64)) w_0.seen, .obj false 0 0 (mrep val0_2 (T_wall_share_rep) (Rep.int .i64)) w_0.has, .obj false blk0 off0 (.dat (T_wall_Wall_repo val0_0 val0_1 val0_2)) w_0, .gone, .gone, .gone, .gone]) (by first | exact hB z3α S false false false false e4 e9 e14 e16 | (have q := hB z3α S false false false false e4 e9 e14 e16; simp only [cond_true, cond_false] at q; exact q)) ?_
      refine o_faddr field79_0 type75 (by decide) rfl rfl guard_none (look_d rfl rfl (pr hp 0 rfl rfl)) (fun _ => rfl) ?_
      apply h_endA (α := z3α) (z3α.1, z3α.2.1, z3α.2.2.1, z3α.2.2.2)
      · exact (.same (.same (.same (.same (.same (.same (.same (.same (.same (.same (.same (.same (.same (.same (.same (.same (.same (.same .nil))))))))))))))))))
      · exact rfl
      · exact rfl
      · exact rfl
      · exact hB (z3α.1, z3α.2.1, z3α.2.2.1, z3α.2.2.2) (fun k => S k || Nat.beq k 2) false false false false (or_f e4 rfl) (or_f e9 rfl) (or_f e14 rfl) (or_f e16 rfl)
    · intro z3α S hc hk hp
      have e4 : S 4 = false := (not_yet (j := 4) (q := 0) hc hk rfl rfl rfl rfl)
      have e9 : S 9 = false := (not_yet (j := 9) (q := 1) hc (not_yet (j := 4) (q := 0) hc hk rfl rfl rfl rfl) rfl rfl rfl rfl)
      have e14 : S 14 = false := (not_yet (j := 14) (q := 1) hc (not_yet (j := 9) (q := 1) hc (not_yet (j := 4) (q := 0) hc hk rfl rfl rfl rfl) rfl rfl rfl rfl) rfl rfl rfl rfl)
      have e16 : S 16 = false := (not_yet (j := 16) (q := 0) hc (not_yet (j := 15) (q := 0) hc (not_yet (j := 4) (q := 0) hc hk rfl rfl rfl rfl) rfl rfl rfl rfl) rfl rfl rfl rfl)
      refine eq_H (H' := [.obj false 0 0 (mrep val0_0 (Rep.str) (T_wall_class_rep)) w_0.of, .obj false 0 0 (mrep val0_1 (T_wall_sight_rep) (Rep.int .i64)) w_0.seen, .obj false 0 0 (mrep val0_2 (T_wall_share_rep) (Rep.int .i64)) w_0.has, .obj false blk0 off0 (.dat (T_wall_Wall_repo val0_0 val0_1 val0_2)) w_0, .gone, .gone, .gone, .gone]) (by first | exact hB z3α S false false false false e4 e9 e14 e16 | (have q := hB z3α S false false false false e4 e9 e14 e16; simp only [cond_true, cond_false] at q; exact q)) ?_
      refine o_oloadi 3 rfl (typeisv75 val0_0) (T_wall_Wall_foco0 val0_0 val0_1 val0_2) rfl guard_none (look_d rfl rfl (pr hp 0 rfl rfl)) (fun _ => rfl) ?_
      refine o_asv ?_
      apply h_endA (α := z3α) (z3α.1, z3α.2.1, z3α.2.2.1, z3α.2.2.2)
      · exact (.same (.same (.same (.same (.same (.same (.same (.same (.same (.same (.same (.same (.same (.same (.same (.same (.same (.same .nil))))))))))))))))))
      · exact rfl
      · exact rfl
      · exact rfl
      · exact hB (z3α.1, z3α.2.1, z3α.2.2.1, z3α.2.2.2) (fun k => S k || Nat.beq k 3) false false false false (or_f e4 rfl) (or_f e9 rfl) (or_f e14 rfl) (or_f e16 rfl)
    · intro z3α S hc hk hp
      have e9 : S 9 = false := (not_yet (j := 9) (q := 1) hc hk rfl rfl rfl rfl)
      have e14 : S 14 = false := (not_yet (j := 14) (q := 1) hc (not_yet (j := 9) (q := 1) hc hk rfl rfl rfl rfl) rfl rfl rfl rfl)
      have e16 : S 16 = false := (not_yet (j := 16) (q := 0) hc (not_yet (j := 15) (q := 0) hc hk rfl rfl rfl rfl) rfl rfl rfl rfl)
      refine eq_H (H' := [.obj false 0 0 (mrep val0_0 (Rep.str) (T_wall_class_rep)) w_0.of, .obj false 0 0 (mrep val0_1 (T_wall_sight_rep) (Rep.int .i64)) w_0.seen, .obj false 0 0 (mrep val0_2 (T_wall_share_rep) (Rep.int .i64)) w_0.has, .obj false blk0 off0 (.dat (T_wall_Wall_repo val0_0 val0_1 val0_2)) w_0, .gone, .gone, .gone, .gone]) (by first | exact hB z3α S false false false false hk e9 e14 e16 | (have q := hB z3α S false false false false hk e9 e14 e16; simp only [cond_true, cond_false] at q; exact q)) ?_
      refine o_from (bind_eqO h_z4) ?_
      refine o_weak (H' := [] ++ ([.obj false 0 0 (mrep val0_0 (Rep.str) (T_wall_class_rep)) w_0.of] ++ [.obj false 0 0 (mrep val0_1 (T_wall_sight_rep) (Rep.int .i64)) w_0.seen, .obj false 0 0 (mrep val0_2 (T_wall_share_rep) (Rep.int .i64)) w_0.has, .obj false blk0 off0 (.dat (T_wall_Wall_repo val0_0 val0_1 val0_2)) w_0, .gone, .gone, .gone, .gone])) (sub_pick [0, 1, 2, 3, 4, 5, 6, 7] rfl rfl) ?_
      refine o_callU rfl rfl rfl rfl rfl callable65 (looks_cons (look_d rfl rfl (pr hp 0 rfl rfl)) (fun _ => rfl) (looks_nil)) (.cons .nil) (maps_Clone_65_ok _ w_0.of) (fun _ _ => (wr_c wr_n)) (fun z5α => o_eqOH ?_)
      refine o_weak (H' := [.obj true 0 0 (mrep z5α (Rep.str) (T_wall_class_rep)) z4, .obj false 0 0 (mrep val0_0 (Rep.str) (T_wall_class_rep)) w_0.of, .obj false 0 0 (mrep val0_1 (T_wall_sight_rep) (Rep.int .i64)) w_0.seen, .obj false 0 0 (mrep val0_2 (T_wall_share_rep) (Rep.int .i64)) w_0.has, .obj false blk0 off0 (.dat (T_wall_Wall_repo val0_0 val0_1 val0_2)) w_0, .gone, .gone, .gone, .gone]) (sub_pick [0, 1, 2, 3, 4, 5, 6, 7, 8] rfl rfl) ?_
      refine o_weak (H' := [.obj false 0 0 (mrep val0_0 (Rep.str) (T_wall_class_rep)) w_0.of, .obj false 0 0 (mrep val0_1 (T_wall_sight_rep) (Rep.int .i64)) w_0.seen, .obj false 0 0 (mrep val0_2 (T_wall_share_rep) (Rep.int .i64)) w_0.has, .obj false blk0 off0 (.dat (T_wall_Wall_repo val0_0 val0_1 val0_2)) w_0, .obj true 0 0 (mrep z5α (Rep.str) (T_wall_class_rep)) z4, .gone, .gone, .gone]) (sub_pick [1, 2, 3, 4, 0, 6, 7, 8] rfl rfl) ?_
      apply h_endA (α := z3α) (z5α, z3α.2.1, z3α.2.2.1, z3α.2.2.2)
      · exact (.same (.same (.same (.same (.off hk (.same (.same (.same (.same (.same (.same (.same (.same (.same (.same (.off (not_yet (j := 15) (q := 0) hc hk rfl rfl rfl rfl) (.same (.same .nil))))))))))))))))))
      · exact rfl
      · exact rfl
      · exact rfl
      · exact hB (z5α, z3α.2.1, z3α.2.2.1, z3α.2.2.2) (fun k => S k || Nat.beq k 4) true false false false (or_i rfl) (or_f e9 rfl) (or_f e14 rfl) (or_f e16 rfl)
    · intro z3α S hc hk hp
      have e9 : S 9 = false := (not_yet (j := 9) (q := 0) hc (not_yet (j := 8) (q := 0) hc (not_yet (j := 7) (q := 0) hc (not_yet (j := 6) (q := 0) hc hk rfl rfl rfl rfl) rfl rfl rfl rfl) rfl rfl rfl rfl) rfl rfl rfl rfl)
      have e14 : S 14 = false := (not_yet (j := 14) (q := 1) hc (not_yet (j := 9) (q := 0) hc (not_yet (j := 8) (q := 0) hc (not_yet (j := 7) (q := 0) hc (not_yet (j := 6) (q := 0) hc hk rfl rfl rfl rfl) rfl rfl rfl rfl) rfl rfl rfl rfl) rfl rfl rfl rfl) rfl rfl rfl rfl)
      have e16 : S 16 = false := (not_yet (j := 16) (q := 0) hc (not_yet (j := 15) (q := 1) hc (not_yet (j := 9) (q := 0) hc (not_yet (j := 8) (q := 0) hc (not_yet (j := 7) (q := 0) hc (not_yet (j := 6) (q := 0) hc hk rfl rfl rfl rfl) rfl rfl rfl rfl) rfl rfl rfl rfl) rfl rfl rfl rfl) rfl rfl rfl rfl) rfl rfl rfl rfl)
      refine eq_H (H' := [.obj false 0 0 (mrep val0_0 (Rep.str) (T_wall_class_rep)) w_0.of, .obj false 0 0 (mrep val0_1 (T_wall_sight_rep) (Rep.int .i64)) w_0.seen, .obj false 0 0 (mrep val0_2 (T_wall_share_rep) (Rep.int .i64)) w_0.has, .obj false blk0 off0 (.dat (T_wall_Wall_repo val0_0 val0_1 val0_2)) w_0, (cond (S 4) (.obj true 0 0 (mrep (z3α.1) (Rep.str) (T_wall_class_rep)) z4) (.gone)), .gone, .gone, .gone]) (by first | exact hB z3α S (S 4) false false false rfl e9 e14 e16 | (have q := hB z3α S (S 4) false false false rfl e9 e14 e16; simp only [cond_true, cond_false] at q; exact q)) ?_
      refine o_move rfl rfl guard_none (look_o rfl rfl) (fun _ => rfl) ?_
      apply h_endA (α := z3α) (z3α.1, z3α.2.1, z3α.2.2.1, z3α.2.2.2)
      · exact (.same (.same (.same (.same (.same (.same (.same (.same (.same (.same (.same (.same (.same (.same (.same (.same (.same (.same .nil))))))))))))))))))
      · exact rfl
      · exact rfl
      · exact rfl
      · exact hB (z3α.1, z3α.2.1, z3α.2.2.1, z3α.2.2.2) (fun k => S k || Nat.beq k 5) (S 4) false false false (or_ne rfl) (or_f e9 rfl) (or_f e14 rfl) (or_f e16 rfl)
    · intro z3α S hc hk hp
      have e9 : S 9 = false := (not_yet (j := 9) (q := 0) hc (not_yet (j := 8) (q := 0) hc (not_yet (j := 7) (q := 0) hc hk rfl rfl rfl rfl) rfl rfl rfl rfl) rfl rfl rfl rfl)
      have e14 : S 14 = false := (not_yet (j := 14) (q := 1) hc (not_yet (j := 9) (q := 0) hc (not_yet (j := 8) (q := 0) hc (not_yet (j := 7) (q := 0) hc hk rfl rfl rfl rfl) rfl rfl rfl rfl) rfl rfl rfl rfl) rfl rfl rfl rfl)
      have e16 : S 16 = false := (not_yet (j := 16) (q := 0) hc (not_yet (j := 15) (q := 1) hc (not_yet (j := 9) (q := 0) hc (not_yet (j := 8) (q := 0) hc (not_yet (j := 7) (q := 0) hc hk rfl rfl rfl rfl) rfl rfl rfl rfl) rfl rfl rfl rfl) rfl rfl rfl rfl) rfl rfl rfl rfl)
      refine eq_H (H' := [.obj false 0 0 (mrep val0_0 (Rep.str) (T_wall_class_rep)) w_0.of, .obj false 0 0 (mrep val0_1 (T_wall_sight_rep) (Rep.int .i64)) w_0.seen, .obj false 0 0 (mrep val0_2 (T_wall_share_rep) (Rep.int .i64)) w_0.has, .obj false blk0 off0 (.dat (T_wall_Wall_repo val0_0 val0_1 val0_2)) w_0, (cond (S 4) (.obj true 0 0 (mrep (z3α.1) (Rep.str) (T_wall_class_rep)) z4) (.gone)), .gone, .gone, .gone]) (by first | exact hB z3α S (S 4) false false false rfl e9 e14 e16 | (have q := hB z3α S (S 4) false false false rfl e9 e14 e16; simp only [cond_true, cond_false] at q; exact q)) ?_
      refine o_nilc rfl rfl guard_none (look_d rfl rfl (pr hp 0 rfl rfl)) (fun _ => rfl) ?_
      apply h_endA (α := z3α) (z3α.1, z3α.2.1, z3α.2.2.1, z3α.2.2.2)
      · exact (.same (.same (.same (.same (.same (.same (.same (.same (.same (.same (.same (.same (.same (.same (.same (.same (.same (.same .nil))))))))))))))))))
      · exact rfl
      · exact rfl
      · exact rfl
      · exact hB (z3α.1, z3α.2.1, z3α.2.2.1, z3α.2.2.2) (fun k => S k || Nat.beq k 6) (S 4) false false false (or_ne rfl) (or_f e9 rfl) (or_f e14 rfl) (or_f e16 rfl)
    · intro z3α S hc hk hp
      have e9 : S 9 = false := (not_yet (j := 9) (q := 0) hc (not_yet (j := 8) (q := 0) hc hk rfl rfl rfl rfl) rfl rfl rfl rfl)
      have e14 : S 14 = false := (not_yet (j := 14) (q := 1) hc (not_yet (j := 9) (q := 0) hc (not_yet (j := 8) (q := 0) hc hk rfl rfl rfl rfl) rfl rfl rfl rfl) rfl rfl rfl rfl)
      have e16 : S 16 = false := (not_yet (j := 16) (q := 0) hc (not_yet (j := 15) (q := 1) hc (not_yet (j := 9) (q := 0) hc (not_yet (j := 8) (q := 0) hc hk rfl rfl rfl rfl) rfl rfl rfl rfl) rfl rfl rfl rfl) rfl rfl rfl rfl)
      refine eq_H (H' := [.obj false 0 0 (mrep val0_0 (Rep.str) (T_wall_class_rep)) w_0.of, .obj false 0 0 (mrep val0_1 (T_wall_sight_rep) (Rep.int .i64)) w_0.seen, .obj false 0 0 (mrep val0_2 (T_wall_share_rep) (Rep.int .i64)) w_0.has, .obj false blk0 off0 (.dat (T_wall_Wall_repo val0_0 val0_1 val0_2)) w_0, (cond (S 4) (.obj true 0 0 (mrep (z3α.1) (Rep.str) (T_wall_class_rep)) z4) (.gone)), .gone, .gone, .gone]) (by first | exact hB z3α S (S 4) false false false rfl e9 e14 e16 | (have q := hB z3α S (S 4) false false false rfl e9 e14 e16; simp only [cond_true, cond_false] at q; exact q)) ?_
      refine o_faddr field79_1 type76 (by decide) rfl rfl guard_none (look_d rfl rfl (pr hp 0 rfl rfl)) (fun _ => rfl) ?_
      apply h_endA (α := z3α) (z3α.1, z3α.2.1, z3α.2.2.1, z3α.2.2.2)
      · exact (.same (.same (.same (.same (.same (.same (.same (.same (.same (.same (.same (.same (.same (.same (.same (.same (.same (.same .nil))))))))))))))))))
      · exact rfl
      · exact rfl
      · exact rfl
      · exact hB (z3α.1, z3α.2.1, z3α.2.2.1, z3α.2.2.2) (fun k => S k || Nat.beq k 7) (S 4) false false false (or_ne rfl) (or_f e9 rfl) (or_f e14 rfl) (or_f e16 rfl)
    · intro z3α S hc hk hp
      have e9 : S 9 = false := (not_yet (j := 9) (q := 0) hc hk rfl rfl rfl rfl)
      have e14 : S 14 = false := (not_yet (j := 14) (q := 1) hc (not_yet (j := 9) (q := 0) hc hk rfl rfl rfl rfl) rfl rfl rfl rfl)
      have e16 : S 16 = false := (not_yet (j := 16) (q := 0) hc (not_yet (j := 15) (q := 1) hc (not_yet (j := 9) (q := 0) hc hk rfl rfl rfl rfl) rfl rfl rfl rfl) rfl rfl rfl rfl)
      refine eq_H (H' := [.obj false 0 0 (mrep val0_0 (Rep.str) (T_wall_class_rep)) w_0.of, .obj false 0 0 (mrep val0_1 (T_wall_sight_rep) (Rep.int .i64)) w_0.seen, .obj false 0 0 (mrep val0_2 (T_wall_share_rep) (Rep.int .i64)) w_0.has, .obj false blk0 off0 (.dat (T_wall_Wall_repo val0_0 val0_1 val0_2)) w_0, (cond (S 4) (.obj true 0 0 (mrep (z3α.1) (Rep.str) (T_wall_class_rep)) z4) (.gone)), .gone, .gone, .gone]) (by first | exact hB z3α S (S 4) false false false rfl e9 e14 e16 | (have q := hB z3α S (S 4) false false false rfl e9 e14 e16; simp only [cond_true, cond_false] at q; exact q)) ?_
      refine o_oloadi 3 rfl (typeisv76 val0_1) (T_wall_Wall_foco1 val0_0 val0_1 val0_2) rfl guard_none (look_d rfl rfl (pr hp 0 rfl rfl)) (fun _ => rfl) ?_
      refine o_asv ?_
      apply h_endA (α := z3α) (z3α.1, z3α.2.1, z3α.2.2.1, z3α.2.2.2)
      · exact (.same (.same (.same (.same (.same (.same (.same (.same (.same (.same (.same (.same (.same (.same (.same (.same (.same (.same .nil))))))))))))))))))
      · exact rfl
      · exact rfl
      · exact rfl
      · exact hB (z3α.1, z3α.2.1, z3α.2.2.1, z3α.2.2.2) (fun k => S k || Nat.beq k 8) (S 4) false false false (or_ne rfl) (or_f e9 rfl) (or_f e14 rfl) (or_f e16 rfl)
    · intro z3α S hc hk hp
      have e4 : S 4 = true := (pr hp 1 rfl rfl)
      have e14 : S 14 = false := (not_yet (j := 14) (q := 1) hc hk rfl rfl rfl rfl)
      have e16 : S 16 = false := (not_yet (j := 16) (q := 0) hc (not_yet (j := 15) (q := 1) hc hk rfl rfl rfl rfl) rfl rfl rfl rfl)
      refine eq_H (H' := [.obj false 0 0 (mrep val0_0 (Rep.str) (T_wall_class_rep)) w_0.of, .obj false 0 0 (mrep val0_1 (T_wall_sight_rep) (Rep.int .i64)) w_0.seen, .obj false 0 0 (mrep val0_2 (T_wall_share_rep) (Rep.int .i64)) w_0.has, .obj false blk0 off0 (.dat (T_wall_Wall_repo val0_0 val0_1 val0_2)) w_0, .obj true 0 0 (mrep (z3α.1) (Rep.str) (T_wall_class_rep)) z4, .gone, .gone, .gone]) (by first | exact hB z3α S true false false false e4 hk e14 e16 | (have q := hB z3α S true false false false e4 hk e14 e16; simp only [cond_true, cond_false] at q; exact q)) ?_
      refine o_from (bind_eqO h_z6) ?_
      refine o_weak (H' := [] ++ ([.obj false 0 0 (mrep val0_1 (T_wall_sight_rep) (Rep.int .i64)) w_0.seen] ++ [.obj false 0 0 (mrep val0_0 (Rep.str) (T_wall_class_rep)) w_0.of, .obj false 0 0 (mrep val0_2 (T_wall_share_rep) (Rep.int .i64)) w_0.has, .obj false blk0 off0 (.dat (T_wall_Wall_repo val0_0 val0_1 val0_2)) w_0, .obj true 0 0 (mrep (z3α.1) (Rep.str) (T_wall_class_rep)) z4, .gone, .gone, .gone])) (sub_pick [1, 0, 2, 3, 4, 5, 6, 7] rfl rfl) ?_
      refine o_callU rfl rfl rfl rfl rfl callable66 (looks_cons (look_d rfl rfl (pr hp 0 rfl rfl)) (fun _ => rfl) (looks_nil)) (.cons .nil) (maps_Clone_66_ok _ w_0.seen) (fun _ _ => (wr_c wr_n)) (fun z7α => o_eqOH ?_)
      refine o_weak (H' := [.obj true 0 0 (mrep z7α (T_wall_sight_rep) (Rep.int .i64)) z6, .obj false 0 0 (mrep val0_1 (T_wall_sight_rep) (Rep.int .i64)) w_0.seen, .obj false 0 0 (mrep val0_0 (Rep.str) (T_wall_class_rep)) w_0.of, .obj false 0 0 (mrep val0_2 (T_wall_share_rep) (Rep.int .i64)) w_0.has, .obj false blk0 off0 (.dat (T_wall_Wall_repo val0_0 val0_1 val0_2)) w_0, .obj true 0 0 (mrep (z3α.1) (Rep.str) (T_wall_class_rep)) z4, .gone, .gone, .gone]) (sub_pick [0, 1, 2, 3, 4, 5, 6, 7, 8] rfl rfl) ?_
      refine o_weak (H' := [.obj false 0 0 (mrep val0_0 (Rep.str) (T_wall_class_rep)) w_0.of, .obj false 0 0 (mrep val0_1 (T_wall_sight_rep) (Rep.int .i64)) w_0.seen, .obj false 0 0 (mrep val0_2 (T_wall_share_rep) (Rep.int .i64)) w_0.has, .obj false blk0 off0 (.dat (T_wall_Wall_repo val0_0 val0_1 val0_2)) w_0, .obj true 0 0 (mrep (z3α.1) (Rep.str) (T_wall_class_rep)) z4, .obj true 0 0 (mrep z7α (T_wall_sight_rep) (Rep.int .i64)) z6, .gone, .gone]) (sub_pick [2, 1, 3, 4, 5, 0, 7, 8] rfl rfl) ?_
      apply h_endA (α := z3α) (z3α.1, z7α, z3α.2.2.1, z3α.2.2.2)
      · exact (.same (.same (.same (.same (.same (.same (.same (.same (.same (.off hk (.same (.same (.same (.same (.same (.off (not_yet (j := 15) (q := 1) hc hk rfl rfl rfl rfl) (.same (.same .nil))))))))))))))))))
      · exact rfl
      · exact rfl
      · exact rfl
      · exact hB (z3α.1, z7α, z3α.2.2.1, z3α.2.2.2) (fun k => S k || Nat.beq k 9) true true false false (or_t e4) (or_i rfl) (or_f e14 rfl) (or_f e16 rfl)
    · intro z3α S hc hk hp
      have e14 : S 14 = false := (not_yet (j := 14) (q := 0) hc (not_yet (j := 13) (q := 0) hc (not_yet (j := 12) (q := 0) hc (not_yet (j := 11) (q := 0) hc hk rfl rfl rfl rfl) rfl rfl rfl rfl) rfl rfl rfl rfl) rfl rfl rfl rfl)
      have e16 : S 16 = false := (not_yet (j := 16) (q := 0) hc (not_yet (j := 15) (q := 2) hc (not_yet (j := 14) (q := 0) hc (not_yet (j := 13) (q := 0) hc (not_yet (j := 12) (q := 0) hc (not_yet (j := 11) (q := 0) hc hk rfl rfl rfl rfl) rfl rfl rfl rfl) rfl rfl rfl rfl) rfl rfl rfl rfl) rfl rfl rfl rfl) rfl rfl rfl rfl)
      refine eq_H (H' := [.obj false 0 0 (mrep val0_0 (Rep.str) (T_wall_class_rep)) w_0.of, .obj false 0 0 (mrep val0_1 (T_wall_sight_rep) (Rep.int .i64)) w_0.seen, .obj false 0 0 (mrep val0_2 (T_wall_share_rep) (Rep.int .i64)) w_0.has, .obj false blk0 off0 (.dat (T_wall_Wall_repo val0_0 val0_1 val0_2)) w_0, (cond (S 4) (.obj true 0 0 (mrep (z3α.1) (Rep.str) (T_wall_class_rep)) z4) (.gone)), (cond (S 9) (.obj true 0 0 (mrep (z3α.2.1) (T_wall_sight_rep) (Rep.int .i64)) z6) (.gone)), .gone, .gone]) (by first | exact hB z3α S (S 4) (S 9) false false rfl rfl e14 e16 | (have q := hB z3α S (S 4) (S 9) false false rfl rfl e14 e16; simp only [cond_true, cond_false] at q; exact q)) ?_
      refine o_move rfl rfl guard_none (look_o rfl rfl) (fun _ => rfl) ?_
      apply h_endA (α := z3α) (z3α.1, z3α.2.1, z3α.2.2.1, z3α.2.2.2)
      · exact (.same (.same (.same (.same (.same (.same (.same (.same (.same (.same (.same (.same (.same (.same (.same (.same (.same (.same .nil))))))))))))))))))
      · exact rfl
      · exact rfl
      · exact rfl
      · exact hB (z3α.1, z3α.2.1, z3α.2.2.1, z3α.2.2.2) (fun k => S k || Nat.beq k 10) (S 4) (S 9) false false (or_ne rfl) (or_ne rfl) (or_f e14 rfl) (or_f e16 rfl)
    · intro z3α S hc hk hp
      have e14 : S 14 = false := (not_yet (j := 14) (q := 0) hc (not_yet (j := 13) (q := 0) hc (not_yet (j := 12) (q := 0) hc hk rfl rfl rfl rfl) rfl rfl rfl rfl) rfl rfl rfl rfl)
      have e16 : S 16 = false := (not_yet (j := 16) (q := 0) hc (not_yet (j := 15) (q := 2) hc (not_yet (j := 14) (q := 0) hc (not_yet (j := 13) (q := 0) hc (not_yet (j := 12) (q := 0) hc hk rfl rfl rfl rfl) rfl rfl rfl rfl) rfl rfl rfl rfl) rfl rfl rfl rfl) rfl rfl rfl rfl)
      refine eq_H (H' := [.obj false 0 0 (mrep val0_0 (Rep.str) (T_wall_class_rep)) w_0.of, .obj false 0 0 (mrep val0_1 (T_wall_sight_rep) (Rep.int .i64)) w_0.seen, .obj false 0 0 (mrep val0_2 (T_wall_share_rep) (Rep.int .i64)) w_0.has, .obj false blk0 off0 (.dat (T_wall_Wall_repo val0_0 val0_1 val0_2)) w_0, (cond (S 4) (.obj true 0 0 (mrep (z3α.1) (Rep.str) (T_wall_class_rep)) z4) (.gone)), (cond (S 9) (.obj true 0 0 (mrep (z3α.2.1) (T_wall_sight_rep) (Rep.int .i64)) z6) (.gone)), .gone, .gone]) (by first | exact hB z3α S (S 4) (S 9) false false rfl rfl e14 e16 | (have q := hB z3α S (S 4) (S 9) false false rfl rfl e14 e16; simp only [cond_true, cond_false] at q; exact q)) ?_
      refine o_nilc rfl rfl guard_none (look_d rfl rfl (pr hp 0 rfl rfl)) (fun _ => rfl) ?_
      apply h_endA (α := z3α) (z3α.1, z3α.2.1, z3α.2.2.1, z3α.2.2.2)
      · exact (.same (.same (.same (.same (.same (.same (.same (.same (.same (.same (.same (.same (.same (.same (.same (.same (.same (.same .nil))))))))))))))))))
      · exact rfl
      · exact rfl
      · exact rfl
      · exact hB (z3α.1, z3α.2.1, z3α.2.2.1, z3α.2.2.2) (fun k => S k || Nat.beq k 11) (S 4) (S 9) false false (or_ne rfl) (or_ne rfl) (or_f e14 rfl) (or_f e16 rfl)
    · intro z3α S hc hk hp
      have e14 : S 14 = false := (not_yet (j := 14) (q := 0) hc (not_yet (j := 13) (q := 0) hc hk rfl rfl rfl rfl) rfl rfl rfl rfl)
      have e16 : S 16 = false := (not_yet (j := 16) (q := 0) hc (not_yet (j := 15) (q := 2) hc (not_yet (j := 14) (q := 0) hc (not_yet (j := 13) (q := 0) hc hk rfl rfl rfl rfl) rfl rfl rfl rfl) rfl rfl rfl rfl) rfl rfl rfl rfl)
      refine eq_H (H' := [.obj false 0 0 (mrep val0_0 (Rep.str) (T_wall_class_rep)) w_0.of, .obj false 0 0 (mrep val0_1 (T_wall_sight_rep) (Rep.int .i64)) w_0.seen, .obj false 0 0 (mrep val0_2 (T_wall_share_rep) (Rep.int .i64)) w_0.has, .obj false blk0 off0 (.dat (T_wall_Wall_repo val0_0 val0_1 val0_2)) w_0, (cond (S 4) (.obj true 0 0 (mrep (z3α.1) (Rep.str) (T_wall_class_rep)) z4) (.gone)), (cond (S 9) (.obj true 0 0 (mrep (z3α.2.1) (T_wall_sight_rep) (Rep.int .i64)) z6) (.gone)), .gone, .gone]) (by first | exact hB z3α S (S 4) (S 9) false false rfl rfl e14 e16 | (have q := hB z3α S (S 4) (S 9) false false rfl rfl e14 e16; simp only [cond_true, cond_false] at q; exact q)) ?_
      refine o_faddr field79_2 type77 (by decide) rfl rfl guard_none (look_d rfl rfl (pr hp 0 rfl rfl)) (fun _ => rfl) ?_
      apply h_endA (α := z3α) (z3α.1, z3α.2.1, z3α.2.2.1, z3α.2.2.2)
      · exact (.same (.same (.same (.same (.same (.same (.same (.same (.same (.same (.same (.same (.same (.same (.same (.same (.same (.same .nil))))))))))))))))))
      · exact rfl
      · exact rfl
      · exact rfl
      · exact hB (z3α.1, z3α.2.1, z3α.2.2.1, z3α.2.2.2) (fun k => S k || Nat.beq k 12) (S 4) (S 9) false false (or_ne rfl) (or_ne rfl) (or_f e14 rfl) (or_f e16 rfl)
    · intro z3α S hc hk hp
      have e14 : S 14 = false := (not_yet (j := 14) (q := 0) hc hk rfl rfl rfl rfl)
      have e16 : S 16 = false := (not_yet (j := 16) (q := 0) hc (not_yet (j := 15) (q := 2) hc (not_yet (j := 14) (q := 0) hc hk rfl rfl rfl rfl) rfl rfl rfl rfl) rfl rfl rfl rfl)
      refine eq_H (H' := [.obj false 0 0 (mrep val0_0 (Rep.str) (T_wall_class_rep)) w_0.of, .obj false 0 0 (mrep val0_1 (T_wall_sight_rep) (Rep.int .i64)) w_0.seen, .obj false 0 0 (mrep val0_2 (T_wall_share_rep) (Rep.int .i64)) w_0.has, .obj false blk0 off0 (.dat (T_wall_Wall_repo val0_0 val0_1 val0_2)) w_0, (cond (S 4) (.obj true 0 0 (mrep (z3α.1) (Rep.str) (T_wall_class_rep)) z4) (.gone)), (cond (S 9) (.obj true 0 0 (mrep (z3α.2.1) (T_wall_sight_rep) (Rep.int .i64)) z6) (.gone)), .gone, .gone]) (by first | exact hB z3α S (S 4) (S 9) false false rfl rfl e14 e16 | (have q := hB z3α S (S 4) (S 9) false false rfl rfl e14 e16; simp only [cond_true, cond_false] at q; exact q)) ?_
      refine o_oloadi 3 rfl (typeisv77 val0_2) (T_wall_Wall_foco2 val0_0 val0_1 val0_2) rfl guard_none (look_d rfl rfl (pr hp 0 rfl rfl)) (fun _ => rfl) ?_
      refine o_asv ?_
      apply h_endA (α := z3α) (z3α.1, z3α.2.1, z3α.2.2.1, z3α.2.2.2)
      · exact (.same (.same (.same (.same (.same (.same (.same (.same (.same (.same (.same (.same (.same (.same (.same (.same (.same (.same .nil))))))))))))))))))
      · exact rfl
      · exact rfl
      · exact rfl
      · exact hB (z3α.1, z3α.2.1, z3α.2.2.1, z3α.2.2.2) (fun k => S k || Nat.beq k 13) (S 4) (S 9) false false (or_ne rfl) (or_ne rfl) (or_f e14 rfl) (or_f e16 rfl)
    · intro z3α S hc hk hp
      have e4 : S 4 = true := (pr (hc 9 _ rfl (pr hp 1 rfl rfl)) 1 rfl rfl)
      have e9 : S 9 = true := (pr hp 1 rfl rfl)
      have e16 : S 16 = false := (not_yet (j := 16) (q := 0) hc (not_yet (j := 15) (q := 2) hc hk rfl rfl rfl rfl) rfl rfl rfl rfl)
      refine eq_H (H' := [.obj false 0 0 (mrep val0_0 (Rep.str) (T_wall_class_rep)) w_0.of, .obj false 0 0 (mrep val0_1 (T_wall_sight_rep) (Rep.int .i64)) w_0.seen, .obj false 0 0 (mrep val0_2 (T_wall_share_rep) (Rep.int .i64)) w_0.has, .obj false blk0 off0 (.dat (T_wall_Wall_repo val0_0 val0_1 val0_2)) w_0, .obj true 0 0 (mrep (z3α.1) (Rep.str) (T_wall_class_rep)) z4, .obj true 0 0 (mrep (z3α.2.1) (T_wall_sight_rep) (Rep.int .i64)) z6, .gone, .gone]) (by first | exact hB z3α S true true false false e4 e9 hk e16 | (have q := hB z3α S true true false false e4 e9 hk e16; simp only [cond_true, cond_false] at q; exact q)) ?_
      refine o_from (bind_eqO h_z8) ?_
      refine o_weak (H' := [] ++ ([.obj false 0 0 (mrep val0_2 (T_wall_share_rep) (Rep.int .i64)) w_0.has] ++ [.obj false 0 0 (mrep val0_0 (Rep.str) (T_wall_class_rep)) w_0.of, .obj false 0 0 (mrep val0_1 (T_wall_sight_rep) (Rep.int .i64)) w_0.seen, .obj false blk0 off0 (.dat (T_wall_Wall_repo val0_0 val0_1 val0_2)) w_0, .obj true 0 0 (mrep (z3α.1) (Rep.str) (T_wall_class_rep)) z4, .obj true 0 0 (mrep (z3α.2.1) (T_wall_sight_rep) (Rep.int .i64)) z6, .gone, .gone])) (sub_pick [2, 0, 1, 3, 4, 5, 6, 7] rfl rfl) ?_
      refine o_callU rfl rfl rfl rfl rfl callable67 (looks_cons (look_d rfl rfl (pr hp 0 rfl rfl)) (fun _ => rfl) (looks_nil)) (.cons .nil) (maps_Clone_67_ok _ w_0.has) (fun _ _ => (wr_c wr_n)) (fun z9α => o_eqOH ?_)
      refine o_weak (H' := [.obj true 0 0 (mrep z9α (T_wall_share_rep) (Rep.int .i64)) z8, .obj false 0 0 (mrep val0_2 (T_wall_share_rep) (Rep.int .i64)) w_0.has, .obj false 0 0 (mrep val0_0 (Rep.str) (T_wall_class_rep)) w_0.of, .obj false 0 0 (mrep val0_1 (T_wall_sight_rep) (Rep.int .i64)) w_0.seen, .obj false blk0 off0 (.dat (T_wall_Wall_repo val0_0 val0_1 val0_2)) w_0, .obj true 0 0 (mrep (z3α.1) (Rep.str) (T_wall_class_rep)) z4, .obj true 0 0 (mrep (z3α.2.1) (T_wall_sight_rep) (Rep.int .i64)) z6, .gone, .gone]) (sub_pick [0, 1, 2, 3, 4, 5, 6, 7, 8] rfl rfl) ?_
      refine o_weak (H' := [.obj false 0 0 (mrep val0_0 (Rep.str) (T_wall_class_rep)) w_0.of, .obj false 0 0 (mrep val0_1 (T_wall_sight_rep) (Rep.int .i64)) w_0.seen, .obj false 0 0 (mrep val0_2 (T_wall_share_rep) (Rep.int .i64)) w_0.has, .obj false blk0 off0 (.dat (T_wall_Wall_repo val0_0 val0_1 val0_2)) w_0, .obj true 0 0 (mrep (z3α.1) (Rep.str) (T_wall_class_rep)) z4, .obj true 0 0 (mrep (z3α.2.1) (T_wall_sight_rep) (Rep.int .i64)) z6, .obj true 0 0 (mrep z9α (T_wall_share_rep) (Rep.int .i64)) z8, .gone]) (sub_pick [2, 3, 1, 4, 5, 6, 0, 8] rfl rfl) ?_
      apply h_endA (α := z3α) (z3α.1, z3α.2.1, z9α, z3α.2.2.2)
      · exact (.same (.same (.same (.same (.same (.same (.same (.same (.same (.same (.same (.same (.same (.same (.off hk (.off (not_yet (j := 15) (q := 2) hc hk rfl rfl rfl rfl) (.same (.same .nil))))))))))))))))))
      · exact rfl
      · exact rfl
      · exact rfl
      · exact hB (z3α.1, z3α.2.1, z9α, z3α.2.2.2) (fun k => S k || Nat.beq k 14) true true true false (or_t e4) (or_t e9) (or_i rfl) (or_f e16 rfl)
    · intro z3α S hc hk hp
      have e4 : S 4 = true := (pr hp 0 rfl rfl)
      have e9 : S 9 = true := (pr hp 1 rfl rfl)
      have e14 : S 14 = true := (pr hp 2 rfl rfl)
      have e16 : S 16 = false := (not_yet (j := 16) (q := 0) hc hk rfl rfl rfl rfl)
      refine eq_H (H' := [.obj false 0 0 (mrep val0_0 (Rep.str) (T_wall_class_rep)) w_0.of, .obj false 0 0 (mrep val0_1 (T_wall_sight_rep) (Rep.int .i64)) w_0.seen, .obj false 0 0 (mrep val0_2 (T_wall_share_rep) (Rep.int .i64)) w_0.has, .obj false blk0 off0 (.dat (T_wall_Wall_repo val0_0 val0_1 val0_2)) w_0, .obj true 0 0 (mrep (z3α.1) (Rep.str) (T_wall_class_rep)) z4, .obj true 0 0 (mrep (z3α.2.1) (T_wall_sight_rep) (Rep.int .i64)) z6, .obj true 0 0 (mrep (z3α.2.2.1) (T_wall_share_rep) (Rep.int .i64)) z8, .gone]) (by first | exact hB z3α S true true true false e4 e9 e14 e16 | (have q := hB z3α S true true true false e4 e9 e14 e16; simp only [cond_true, cond_false] at q; exact q)) ?_
      refine o_build (R := T_wall_Wall_repo0 (z3α.1) (z3α.2.1) (z3α.2.2.1)) (f := T_wall_Wall_tupo) (y := (⟨z4, z6, z8⟩ : T_wall_Wall)) shape79 rfl rfl rfl rfl guard_none (bld_part rfl rfl (look_isvm 4 (mapi rfl) (look_d rfl rfl (pr hp 0 rfl rfl))) (fun _ => rfl) (bld_part rfl rfl (look_isvm 5 (mapi rfl) (look_d rfl rfl (pr hp 1 rfl rfl))) (fun _ => rfl) (bld_part rfl rfl (look_isvm 6 (mapi rfl) (look_d rfl rfl (pr hp 2 rfl rfl))) (fun _ => rfl) (bld_nil)))) ?_
      apply h_endA (α := z3α) (z3α.1, z3α.2.1, z3α.2.2.1, z3α.2.2.2)
      · exact (.same (.same (.same (.same (.same (.same (.same (.same (.same (.same (.same (.same (.same (.same (.same (.same (.same (.same .nil))))))))))))))))))
      · exact rfl
      · exact rfl
      · exact rfl
      · exact hB (z3α.1, z3α.2.1, z3α.2.2.1, z3α.2.2.2) (fun k => S k || Nat.beq k 15) true true true false (or_t e4) (or_t e9) (or_t e14) (or_f e16 rfl)
    · intro z3α S hc hk hp
      have e4 : S 4 = true := (pr (hc 15 _ rfl (pr hp 0 rfl rfl)) 0 rfl rfl)
      have e9 : S 9 = true := (pr (hc 15 _ rfl (pr hp 0 rfl rfl)) 1 rfl rfl)
      have e14 : S 14 = true := (pr (hc 15 _ rfl (pr hp 0 rfl rfl)) 2 rfl rfl)
      refine eq_H (H' := [.obj false 0 0 (mrep val0_0 (Rep.str) (T_wall_class_rep)) w_0.of, .obj false 0 0 (mrep val0_1 (T_wall_sight_rep) (Rep.int .i64)) w_0.seen, .obj false 0 0 (mrep val0_2 (T_wall_share_rep) (Rep.int .i64)) w_0.has, .obj false blk0 off0 (.dat (T_wall_Wall_repo val0_0 val0_1 val0_2)) w_0, .obj true 0 0 (mrep (z3α.1) (Rep.str) (T_wall_class_rep)) z4, .obj true 0 0 (mrep (z3α.2.1) (T_wall_sight_rep) (Rep.int .i64)) z6, .obj true 0 0 (mrep (z3α.2.2.1) (T_wall_share_rep) (Rep.int .i64)) z8, .gone]) (by first | exact hB z3α S true true true false e4 e9 e14 hk | (have q := hB z3α S true true true false e4 e9 e14 hk; simp only [cond_true, cond_false] at q; exact q)) ?_
      refine o_box rfl rfl (look_d rfl rfl (pr hp 0 rfl rfl)) rfl (fun z10 => ?_)
      refine o_weak (H' := [.obj false 0 0 (mrep val0_0 (Rep.str) (T_wall_class_rep)) w_0.of, .obj false 0 0 (mrep val0_1 (T_wall_sight_rep) (Rep.int .i64)) w_0.seen, .obj false 0 0 (mrep val0_2 (T_wall_share_rep) (Rep.int .i64)) w_0.has, .obj false blk0 off0 (.dat (T_wall_Wall_repo val0_0 val0_1 val0_2)) w_0, .obj true 0 0 (mrep (z3α.1) (Rep.str) (T_wall_class_rep)) z4, .obj true 0 0 (mrep (z3α.2.1) (T_wall_sight_rep) (Rep.int .i64)) z6, .obj true 0 0 (mrep (z3α.2.2.1) (T_wall_share_rep) (Rep.int .i64)) z8, .obj true z10 0 (.dat (T_wall_Wall_repo (z3α.1) (z3α.2.1) (z3α.2.2.1))) (⟨z4, z6, z8⟩ : T_wall_Wall)]) (sub_pick [1, 2, 3, 4, 5, 6, 7, 0] rfl rfl) ?_
      apply h_endA (α := z3α) (z3α.1, z3α.2.1, z3α.2.2.1, z10)
      · exact (.same (.same (.same (.same (.same (.same (.same (.same (.same (.same (.same (.same (.same (.same (.same (.same (.off hk (.off (not_yet (j := 17) (q := 0) hc hk rfl rfl rfl rfl) .nil))))))))))))))))))
      · exact rfl
      · exact rfl
      · exact rfl
      · exact hB (z3α.1, z3α.2.1, z3α.2.2.1, z10) (fun k => S k || Nat.beq k 16) true true true true (or_t e4) (or_t e9) (or_t e14) (or_i rfl)
    · intro z3α S hc hk hp
      have e4 : S 4 = true := (pr hp 6 rfl rfl)
      have e9 : S 9 = true := (pr hp 11 rfl rfl)
      have e14 : S 14 = true := (pr hp 1 rfl rfl)
      have e16 : S 16 = true := (pr hp 0 rfl rfl)
      refine eq_H (H' := [.obj false 0 0 (mrep val0_0 (Rep.str) (T_wall_class_rep)) w_0.of, .obj false 0 0 (mrep val0_1 (T_wall_sight_rep) (Rep.int .i64)) w_0.seen, .obj false 0 0 (mrep val0_2 (T_wall_share_rep) (Rep.int .i64)) w_0.has, .obj false blk0 off0 (.dat (T_wall_Wall_repo val0_0 val0_1 val0_2)) w_0, .obj true 0 0 (mrep (z3α.1) (Rep.str) (T_wall_class_rep)) z4, .obj true 0 0 (mrep (z3α.2.1) (T_wall_sight_rep) (Rep.int .i64)) z6, .obj true 0 0 (mrep (z3α.2.2.1) (T_wall_share_rep) (Rep.int .i64)) z8, .obj true (z3α.2.2.2) 0 (.dat (T_wall_Wall_repo (z3α.1) (z3α.2.1) (z3α.2.2.1))) (⟨z4, z6, z8⟩ : T_wall_Wall)]) (by first | exact hB z3α S true true true true e4 e9 e14 e16 | (have q := hB z3α S true true true true e4 e9 e14 e16; simp only [cond_true, cond_false] at q; exact q)) ?_
      refine o_assign rfl rfl guard_none (look_d rfl rfl (pr hp 0 rfl rfl)) (fun _ => rfl) ?_
      apply h_endA (α := z3α) (z3α.1, z3α.2.1, z3α.2.2.1, z3α.2.2.2)
      · exact (.same (.same (.same (.same (.same (.same (.same (.same (.same (.same (.same (.same (.same (.same (.same (.same (.same (.same .nil))))))))))))))))))
      · exact rfl
      · exact rfl
      · exact rfl
      · exact hB (z3α.1, z3α.2.1, z3α.2.2.1, z3α.2.2.2) (fun k => S k || Nat.beq k 17) true true true true (or_t e4) (or_t e9) (or_t e14) (or_t e16)
    refine den_code_ret ?_
    exact dene_resI ((z3α.2.2.2, 0), z3α.1, z3α.2.1, z3α.2.2.1) (res1 rfl (rv_optr rfl)) (fun _ _ _ k => ato_pick [4, 5, 6, 7] rfl rfl k)

theorem wall_Wall_made_n0_ok   : FunOk Try.prog 63 [⟨.nilp, (), true⟩] (wall_Wall_made_n0) (Rep.bool) := by
  refine fun_ok Try.func63 rfl Try.ntmps63 rfl (all_cons rfl all_nil) (fun w0 ok0 => ?_)
  refine den_seq ?_
  refine den_region rfl ?_
  refine o_assign rfl rfl guard_none look_bool (fun _ => rfl) ?_
  refine o_end ?_
  refine den_seq ?_
  refine den_region rfl ?_
  refine o_move rfl rfl guard_none (look_tmp rfl) (fun _ => rfl) ?_
  refine o_nneq Try.underlying63 rfl rfl guard_none (look_tmp rfl) (fun _ => rfl) ?_
  refine o_move rfl rfl guard_none (look_tmp rfl) (fun _ => rfl) ?_
  refine o_move rfl rfl (guard_some rfl rfl rfl) (look_tmp rfl) (fun _ => rfl) ?_
  refine o_bad (R := Rep.unit) rfl rfl (guard_some rfl rfl rfl) (fun z1 => ?_)
  refine o_bad (R := Rep.unit) rfl rfl (guard_some rfl rfl rfl) (fun z2 => ?_)
  refine o_bad (R := Rep.unit) rfl rfl (guard_some rfl rfl rfl) (fun z3 => ?_)
  refine o_bad (R := Rep.bool) rfl rfl (guard_some rfl rfl rfl) (fun z4 => ?_)
  refine o_pick rfl rfl guard_none (look_tmp rfl) (look_tmp rfl) look_bool (fun _ => rfl) (fun h1 h2 => pick_t ((fun _ => rfl) h1) h2) (fun _ _ => rfl) ?_
  refine o_assign rfl rfl guard_none (look_tmp rfl) (fun _ => rfl) ?_
  refine o_end ?_
  refine den_code_ret ?_
  exact dene_res (res1 rfl (rv_tmp rfl))

theorem wall_Wall_May_n0_ok  (who_1 : Bytes) (owner_2 : Bytes) : FunOk Try.prog 38 [⟨.nilp, (), true⟩, ⟨Rep.str, who_1, true⟩, ⟨Rep.str, owner_2, true⟩] (wall_Wall_May_n0 who_1 owner_2) (Rep.bool) := by
  refine fun_ok Try.func38 rfl Try.ntmps38 rfl (all_cons rfl (all_cons rfl (all_cons rfl all_nil))) (fun w0 ok0 => ?_)
  refine den_seq ?_
  refine den_region rfl ?_
  refine o_assign rfl rfl guard_none look_bool (fun _ => rfl) ?_
  refine o_end ?_
  refine den_seq ?_
  refine den_seq ?_
  refine den_region rfl ?_
  refine o_move rfl rfl guard_none (look_tmp rfl) (fun _ => rfl) ?_
  refine o_call rfl rfl rfl callable63 (looks_cons (look_tmp rfl) (fun _ => rfl) (looks_nil)) (wall_Wall_made_n0_ok) (fun z1 => ?_)
  refine o_not rfl rfl guard_none (look_tmp rfl) (fun _ => rfl) ?_
  refine o_end ?_
  refine den_cond (look_tmp rfl) ?_ ?_
  · refine den_seq ?_
    refine den_region rfl ?_
    refine o_assign rfl rfl guard_none look_bool (fun _ => rfl) ?_
    refine o_end ?_
    refine den_code_ret ?_
    refine dene_ret ?_
    exact dene_res (res1 rfl (rv_tmp rfl))
  · refine den_skip ?_
    refine den_seq ?_
    refine den_region rfl ?_
    refine o_move rfl rfl guard_none (look_tmp rfl) (fun _ => rfl) ?_
    exact o_none

theorem wall_Wall_See_n0_ok  (who_1 : Bytes) (owner_2 : Bytes) : FunOk Try.prog 34 [⟨.nilp, (), true⟩, ⟨Rep.str, who_1, true⟩, ⟨Rep.str, owner_2, true⟩] (wall_Wall_See_n0 who_1 owner_2) (Rep.bool) := by
  refine fun_ok Try.func34 rfl Try.ntmps34 rfl (all_cons rfl (all_cons rfl (all_cons rfl all_nil))) (fun w0 ok0 => ?_)
  refine den_seq ?_
  refine den_region rfl ?_
  refine o_assign rfl rfl guard_none look_bool (fun _ => rfl) ?_
  refine o_end ?_
  refine den_seq ?_
  refine den_seq ?_
  refine den_region rfl ?_
  refine o_move rfl rfl guard_none (look_tmp rfl) (fun _ => rfl) ?_
  refine o_move rfl rfl guard_none (look_tmp rfl) (fun _ => rfl) ?_
  refine o_move rfl rfl guard_none (look_tmp rfl) (fun _ => rfl) ?_
  refine o_call rfl rfl rfl callable38 (looks_cons (look_tmp rfl) (fun _ => rfl) (looks_cons (look_tmp rfl) (fun _ => rfl) (looks_cons (look_tmp rfl) (fun _ => rfl) (looks_nil)))) (wall_Wall_May_n0_ok _ _) (fun z1 => ?_)
  refine o_not rfl rfl guard_none (look_tmp rfl) (fun _ => rfl) ?_
  refine o_end ?_
  refine den_cond (look_tmp rfl) ?_ ?_
  · refine den_seq ?_
    refine den_region rfl ?_
    refine o_assign rfl rfl guard_none look_bool (fun _ => rfl) ?_
    refine o_end ?_
    refine den_code_ret ?_
    refine dene_ret ?_
    exact dene_res (res1 rfl (rv_tmp rfl))
  · refine den_skip ?_
    refine den_seq ?_
    refine den_region rfl ?_
    refine o_move rfl rfl guard_none (look_tmp rfl) (fun _ => rfl) ?_
    exact o_none

theorem wall_Wall_Seen_n0_ok  (who_1 : Bytes) : FunOk Try.prog 36 [⟨.nilp, (), true⟩, ⟨Rep.str, who_1, true⟩] (wall_Wall_Seen_n0 who_1) ((Rep.str).slice) := by
  refine fun_ok Try.func36 rfl Try.ntmps36 rfl (all_cons rfl (all_cons rfl all_nil)) (fun w0 ok0 => ?_)
  refine den_seq ?_
  refine den_region rfl ?_
  refine o_assign rfl rfl guard_none look_nil1 (fun _ => rfl) ?_
  refine o_end ?_
  refine den_seq ?_
  refine den_seq ?_
  refine den_region rfl ?_
  refine o_move rfl rfl guard_none (look_tmp rfl) (fun _ => rfl) ?_
  refine o_call rfl rfl rfl callable63 (looks_cons (look_tmp rfl) (fun _ => rfl) (looks_nil)) (wall_Wall_made_n0_ok) (fun z1 => ?_)
  refine o_not rfl rfl guard_none (look_tmp rfl) (fun _ => rfl) ?_
  refine o_end ?_
  refine den_cond (look_tmp rfl) ?_ ?_
  · refine den_seq ?_
    refine den_region rfl ?_
    refine o_assign rfl rfl guard_none look_nil1 (fun _ => rfl) ?_
    refine o_end ?_
    refine den_code_ret ?_
    refine dene_ret ?_
    refine dene_weak (sub_nild (R := Rep.str) (s := 4) rfl) ?_
    exact dene_res (res1 rfl (rv_tmp rfl))
  · refine den_skip ?_
    refine den_seq ?_
    refine den_region rfl ?_
    refine o_assign rfl rfl guard_none look_nil1 (fun _ => rfl) ?_
    refine o_end ?_
    refine den_seq ?_
    refine den_seq ?_
    refine den_region rfl ?_
    refine o_move rfl rfl guard_none (look_tmp rfl) (fun _ => rfl) ?_
    exact o_none

theorem wall_Wall_Forget_n0_ok  (who_1 : Bytes) : FunOk Try.prog 33 [⟨.nilp, (), true⟩, ⟨Rep.str, who_1, true⟩] (wall_Wall_Forget_n0 who_1) (Rep.int .i64) := by
  refine fun_ok Try.func33 rfl Try.ntmps33 rfl (all_cons rfl (all_cons rfl all_nil)) (fun w0 ok0 => ?_)
  refine den_seq ?_
  refine den_region rfl ?_
  refine o_assign rfl rfl guard_none (look_int rfl) (fun _ => rfl) ?_
  refine o_end ?_
  refine den_seq ?_
  refine den_region rfl ?_
  refine o_move rfl rfl guard_none (look_tmp rfl) (fun _ => rfl) ?_
  refine o_move rfl rfl guard_none (look_tmp rfl) (fun _ => rfl) ?_
  refine o_call rfl rfl rfl callable36 (looks_cons (look_tmp rfl) (fun _ => rfl) (looks_cons (look_tmp rfl) (fun _ => rfl) (looks_nil))) (wall_Wall_Seen_n0_ok _) (fun z1 => ?_)
  refine o_assign rfl rfl guard_none (look_tmp rfl) (fun _ => rfl) ?_
  refine o_end ?_
  refine den_seq ?_
  refine den_seq ?_
  refine den_region rfl ?_
  refine o_move rfl rfl guard_none (look_tmp rfl) (fun _ => rfl) ?_
  refine o_llen Try.underlying36 rfl rfl guard_none (look_tmp rfl) (fun _ => rfl) ?_
  refine o_move rfl rfl guard_none (look_int rfl) (fun _ => rfl) ?_
  refine o_end ?_
  refine den_bind (fun z2 => [(5, ⟨(Rep.str).slice, z1, true⟩)]) (fun z2 => []) ?_ (fun z2 => ?_)
  · refine den_block ?_
    refine den_loop (wall_Wall_Forget_n0_L1b z1) (fun z3 => [(13, ⟨Rep.int .i64, z3, true⟩), (0, ⟨Rep.nilp, (), true⟩), (1, ⟨Rep.str, who_1, true⟩), (5, ⟨(Rep.str).slice, z1, true⟩), (11, ⟨(Rep.str).slice, z1, true⟩), (12, ⟨Rep.int .i64, (z1.length : Int), true⟩)]) (fun z3 => []) 0 (fun z3 => ?_) ((sub_env (sube_cons rfl (sube_cons rfl (sube_cons rfl (sube_cons rfl (sube_cons rfl (sube_cons rfl (sube_nil)))))))))
    refine den_seq ?_
    refine den_region rfl ?_
    refine o_lss rfl rfl guard_none (look_tmp rfl) (look_tmp rfl) (fun _ => rfl) (fun _ => rfl) ?_
    refine o_end ?_
    refine den_seq ?_
    refine den_cond (look_tmp rfl) ?_ ?_
    · refine den_skip ?_
      refine den_seq ?_
      refine den_block ?_
      refine den_seq ?_
      refine den_region rfl ?_
      refine o_iaddr Try.underlying36 type9 rfl rfl (look_tmp rfl) (look_tmp rfl) rfl rfl (fun z4 => ?_)
      refine o_load type9 rfl rfl guard_none (look_tmp rfl) (fun _ => rfl) ?_
      refine o_assign rfl rfl guard_none (look_tmp rfl) (fun _ => rfl) ?_
      refine o_end ?_
      refine den_seq ?_
      refine den_region rfl ?_
      refine o_move rfl rfl guard_none (look_tmp rfl) (fun _ => rfl) ?_
      exact o_none
    · refine den_code_exit ?_
      refine dene_out rfl ?_
      refine dene_loop (by simp) ?_
      refine dene_to rfl ?_
      refine den_end ((sub_env (sube_cons rfl (sube_nil))))
  refine den_seq ?_
  refine den_region rfl ?_
  refine o_move rfl rfl guard_none (look_tmp rfl) (fun _ => rfl) ?_
  refine o_llen Try.underlying36 rfl rfl guard_none (look_tmp rfl) (fun _ => rfl) ?_
  refine o_assign rfl rfl guard_none (look_tmp rfl) (fun _ => rfl) ?_
  refine o_end ?_
  refine den_code_ret ?_
  exact dene_res (res1 rfl (rv_tmp rfl))

theorem wall_Wall_Leak_n0_ok  (a_1 : Bytes) (b_2 : Bytes) : FunOk Try.prog 37 [⟨.nilp, (), true⟩, ⟨Rep.str, a_1, true⟩, ⟨Rep.str, b_2, true⟩] (wall_Wall_Leak_n0 a_1 b_2) (Rep.bool) := by
  refine fun_ok Try.func37 rfl Try.ntmps37 rfl (all_cons rfl (all_cons rfl (all_cons rfl all_nil))) (fun w0 ok0 => ?_)
  refine den_seq ?_
  refine den_region rfl ?_
  refine o_assign rfl rfl guard_none look_bool (fun _ => rfl) ?_
  refine o_end ?_
  refine den_seq ?_
  refine den_seq ?_
  refine den_region rfl ?_
  refine o_move rfl rfl guard_none (look_tmp rfl) (fun _ => rfl) ?_
  refine o_move rfl rfl guard_none (look_tmp rfl) (fun _ => rfl) ?_
  refine o_call rfl rfl rfl callable36 (looks_cons (look_tmp rfl) (fun _ => rfl) (looks_cons (look_tmp rfl) (fun _ => rfl) (looks_nil))) (wall_Wall_Seen_n0_ok _) (fun z1 => ?_)
  refine o_llen Try.underlying36 rfl rfl guard_none (look_tmp rfl) (fun _ => rfl) ?_
  refine o_move rfl rfl guard_none (look_int rfl) (fun _ => rfl) ?_
  refine o_end ?_
  refine den_both (fun z2 => []) (fun z2 => []) ?_ (fun z2 => ?_)
  · refine den_block ?_
    refine den_loop (wall_Wall_Leak_n0_L1b z1 a_1) (fun z3 => [(13, ⟨Rep.int .i64, z3, true⟩), (0, ⟨Rep.nilp, (), true⟩), (1, ⟨Rep.str, a_1, true⟩), (11, ⟨(Rep.str).slice, z1, true⟩), (12, ⟨Rep.int .i64, (z1.length : Int), true⟩)]) (fun z3 => []) 0 (fun z3 => ?_) ((sub_env (sube_cons rfl (sube_cons rfl (sube_cons rfl (sube_cons rfl (sube_cons rfl (sube_nil))))))))
    refine den_seq ?_
    refine den_region rfl ?_
    refine o_lss rfl rfl guard_none (look_tmp rfl) (look_tmp rfl) (fun _ => rfl) (fun _ => rfl) ?_
    refine o_end ?_
    refine den_seq ?_
    refine den_cond (look_tmp rfl) ?_ ?_
    · refine den_skip ?_
      refine den_seq ?_
      refine den_block ?_
      refine den_seq ?_
      refine den_region rfl ?_
      refine o_iaddr Try.underlying36 type9 rfl rfl (look_tmp rfl) (look_tmp rfl) rfl rfl (fun z4 => ?_)
      refine o_load type9 rfl rfl guard_none (look_tmp rfl) (fun _ => rfl) ?_
      refine o_assign rfl rfl guard_none (look_tmp rfl) (fun _ => rfl) ?_
      refine o_end ?_
      refine den_seq ?_
      refine den_region rfl ?_
      refine o_move rfl rfl guard_none (look_tmp rfl) (fun _ => rfl) ?_
      refine o_move rfl rfl guard_none (look_tmp rfl) (fun _ => rfl) ?_
      refine o_move rfl rfl guard_none (look_tmp rfl) (fun _ => rfl) ?_
      refine o_call rfl rfl rfl callable38 (looks_cons (look_tmp rfl) (fun _ => rfl) (looks_cons (look_tmp rfl) (fun _ => rfl) (looks_cons (look_tmp rfl) (fun _ => rfl) (looks_nil)))) (wall_Wall_May_n0_ok _ _) (fun z5 => ?_)
      refine o_not rfl rfl guard_none (look_tmp rfl) (fun _ => rfl) ?_
      refine o_end ?_
      refine den_cond (look_tmp rfl) ?_ ?_
      · refine den_seq ?_
        refine den_region rfl ?_
        refine o_assign rfl rfl guard_none look_bool (fun _ => rfl) ?_
        refine o_end ?_
        refine den_code_ret ?_
        refine dene_ret ?_
        refine dene_loop (by simp) ?_
        refine dene_ret ?_
        refine dene_both (by simp) ?_
        refine dene_ret ?_
        exact dene_res (res1 rfl (rv_tmp rfl))
      · refine den_skip ?_
        refine den_blkend ?_
        refine den_region rfl ?_
        refine o_add rfl rfl guard_none (look_tmp rfl) (look_int rfl) (fun _ => rfl) (fun _ => rfl) ?_
        refine o_move rfl rfl guard_none (look_tmp rfl) (fun _ => rfl) ?_
        refine o_end ?_
        refine den_next ((sub_env (sube_cons rfl (sube_cons rfl (sube_cons rfl (sube_cons rfl (sube_cons rfl (sube_nil))))))))
    · refine den_code_exit ?_
      refine dene_out rfl ?_
      refine dene_loop (by simp) ?_
      refine dene_to rfl ?_
      refine den_endl ((sub_env (sube_nil)))
  refine den_seq ?_
  refine den_region rfl ?_
  refine o_assign rfl rfl guard_none look_bool (fun _ => rfl) ?_
  refine o_end ?_
  refine den_code_ret ?_
  exact dene_res (res1 rfl (rv_tmp rfl))

theorem law33_step_n0_ok  (l_1 : (List T_wall_Owner)) (m_2 : (List T_law33_sight)) (x_3 : T_law33_Op) : FunOk Try.prog 62 [⟨.nilp, (), true⟩, ⟨(T_wall_Owner_rep).slice, l_1, true⟩, ⟨(T_law33_sight_rep).slice, m_2, true⟩, ⟨T_law33_Op_rep, x_3, true⟩] (law33_step_n0 l_1 m_2 x_3) (Rep.pair ((T_law33_sight_rep).slice) (Rep.bool)) := by
  refine fun_ok Try.func62 rfl Try.ntmps62 rfl (all_cons rfl (all_cons rfl (all_cons rfl (all_cons rfl all_nil)))) (fun w0 ok0 => ?_)
  refine den_seq ?_
  refine den_region rfl ?_
  refine o_box rfl rfl (look_tmp rfl) rfl (fun z1 => ?_)
  refine o_assign rfl rfl guard_none look_nil1 (fun _ => rfl) ?_
  refine o_assign rfl rfl guard_none look_bool (fun _ => rfl) ?_
  refine o_end ?_
  refine den_seq ?_
  refine den_region rfl ?_
  refine o_assign rfl rfl guard_none look_nil1 (fun _ => rfl) ?_
  refine o_end ?_
  refine den_seq ?_
  refine den_seq ?_
  refine den_region rfl ?_
  refine o_faddr field68_0 type3 (by decide) rfl rfl guard_none (look_tmp rfl) (fun _ => rfl) ?_
  refine o_oloadi 0 rfl type3 T_law33_Op_foc0 rfl guard_none (look_tmp rfl) (fun _ => rfl) ?_
  refine o_eql rfl rfl guard_none (look_tmp rfl) (look_int rfl) (fun _ => rfl) (fun _ => rfl) ?_
  refine o_end ?_
  refine den_cond (look_tmp rfl) ?_ ?_
  · refine den_seq ?_
    refine den_open (fun z2 h_z2 => ?_)
    refine den_open (fun z3 h_z3 => ?_)
    refine den_draw [(17, ⟨(T_law33_sight_rep).slice, m_2, true⟩), (18, ⟨Rep.nilp, (), true⟩), (19, ⟨Rep.addr, (z1, 0 + 1), true⟩), (20, ⟨Rep.str, x_3.Who, true⟩), (21, ⟨Rep.addr, (z1, 0 + 2), true⟩), (22, ⟨Rep.str, x_3.Owner, true⟩), (23, ⟨Rep.bool, z2, true⟩), (24, ⟨(T_wall_Owner_rep).slice, l_1, true⟩), (25, ⟨(T_law33_sight_rep).slice, m_2, true⟩), (26, ⟨T_law33_Op_rep, x_3, true⟩), (27, ⟨Rep.bool, z3, true⟩), (28, ⟨Rep.bool, z2 == z3, true⟩), (8, ⟨(T_law33_sight_rep).slice, m_2, true⟩), (9, ⟨Rep.bool, z2 == z3, true⟩)] mixed rfl rfl ⟨?_, ?_, ?_, ?_, ?_, ?_, ?_, ?_, ?_, ?_, ?_, ?_, ?_, ?_, trivial⟩ ?_
    · intro S hc hk hp
      refine o_move rfl rfl guard_none (look_o rfl rfl) (fun _ => rfl) ?_
      exact d_end rfl rfl rfl
    · intro S hc hk hp
      refine o_move rfl rfl guard_none (look_o rfl rfl) (fun _ => rfl) ?_
      exact d_end rfl rfl rfl
    · intro S hc hk hp
      refine o_faddr field68_1 type9 (by decide) rfl rfl guard_none (look_o rfl rfl) (fun _ => rfl) ?_
      exact d_end rfl rfl rfl
    · intro S hc hk hp
      refine o_oloadi 0 rfl type9 T_law33_Op_foc1 rfl guard_none (look_d rfl rfl (pr hp 0 rfl rfl)) (fun _ => rfl) ?_
      exact d_end rfl rfl rfl
    · intro S hc hk hp
      refine o_faddr field68_2 type9 (by decide) rfl rfl guard_none (look_o rfl rfl) (fun _ => rfl) ?_
      exact d_end rfl rfl rfl
    · intro S hc hk hp
      refine o_oloadi 0 rfl type9 T_law33_Op_foc2 rfl guard_none (look_d rfl rfl (pr hp 0 rfl rfl)) (fun _ => rfl) ?_
      exact d_end rfl rfl rfl
    · intro S hc hk hp
      refine o_from (bind_eqO h_z2) ?_
      refine o_call rfl rfl rfl callable38 (looks_cons (look_d rfl rfl (pr hp 0 rfl rfl)) (fun _ => rfl) (looks_cons (look_d rfl rfl (pr hp 1 rfl rfl)) (fun _ => rfl) (looks_cons (look_d rfl rfl (pr hp 2 rfl rfl)) (fun _ => rfl) (looks_nil)))) (wall_Wall_May_n0_ok _ _) (o_eqO ?_)
      exact d_end rfl rfl rfl
    · intro S hc hk hp
      refine o_move rfl rfl guard_none (look_o rfl rfl) (fun _ => rfl) ?_
      exact d_end rfl rfl rfl
    · intro S hc hk hp
      refine o_move rfl rfl guard_none (look_o rfl rfl) (fun _ => rfl) ?_
      exact d_end rfl rfl rfl
    · intro S hc hk hp
      refine o_oloadi 0 rfl type68 foc_self rfl guard_none (look_o rfl rfl) (fun _ => rfl) ?_
      exact d_end rfl rfl rfl
    · intro S hc hk hp
      refine o_from (bind_eqO h_z3) ?_
      refine o_call rfl rfl rfl callable94 (looks_cons (look_d rfl rfl (pr hp 0 rfl rfl)) (fun _ => rfl) (looks_cons (look_d rfl rfl (pr hp 1 rfl rfl)) (fun _ => rfl) (looks_cons (look_d rfl rfl (pr hp 2 rfl rfl)) (fun _ => rfl) (looks_nil)))) (law33_may_ok _ _ _) (o_eqO ?_)
      exact d_end rfl rfl rfl
    · intro S hc hk hp
      refine o_beql Try.underlying4 rfl rfl guard_none (look_d rfl rfl (pr hp 0 rfl rfl)) (look_d rfl rfl (pr hp 1 rfl rfl)) (fun _ => rfl) (fun _ => rfl) ?_
      exact d_end rfl rfl rfl
    · intro S hc hk hp
      refine o_assign rfl rfl guard_none (look_d rfl rfl (pr hp 0 rfl rfl)) (fun _ => rfl) ?_
      exact d_end rfl rfl rfl
    · intro S hc hk hp
      refine o_assign rfl rfl guard_none (look_d rfl rfl (pr hp 0 rfl rfl)) (fun _ => rfl) ?_
      exact d_end rfl rfl rfl
    refine den_code_ret ?_
    refine dene_ret ?_
    exact dene_res (res2 rfl (rv_tmp rfl) (rv_tmp rfl))
  · refine den_skip ?_
    refine den_seq ?_
    refine den_seq ?_
    refine den_region rfl ?_
    refine o_faddr field68_0 type3 (by decide) rfl rfl guard_none (look_tmp rfl) (fun _ => rfl) ?_
    refine o_oloadi 0 rfl type3 T_law33_Op_foc0 rfl guard_none (look_tmp rfl) (fun _ => rfl) ?_
    refine o_eql rfl rfl guard_none (look_tmp rfl) (look_int rfl) (fun _ => rfl) (fun _ => rfl) ?_
    refine o_end ?_
    refine den_cond (look_tmp rfl) ?_ ?_
    · refine den_seq ?_
      refine den_region rfl ?_
      refine o_move rfl rfl guard_none (look_tmp rfl) (fun _ => rfl) ?_
      refine o_move rfl rfl guard_none (look_tmp rfl) (fun _ => rfl) ?_
      refine o_oloadi 0 rfl type68 foc_self rfl guard_none (look_tmp rfl) (fun _ => rfl) ?_
      refine o_call rfl rfl rfl callable94 (looks_cons (look_tmp rfl) (fun _ => rfl) (looks_cons (look_tmp rfl) (fun _ => rfl) (looks_cons (look_tmp rfl) (fun _ => rfl) (looks_nil)))) (law33_may_ok _ _ _) (fun z4 => ?_)
      refine o_assign rfl rfl guard_none (look_tmp rfl) (fun _ => rfl) ?_
      refine o_end ?_
      refine den_seq ?_
      refine den_region rfl ?_
      refine o_move rfl rfl guard_none (look_tmp rfl) (fun _ => rfl) ?_
      refine o_move rfl rfl guard_none (look_tmp rfl) (fun _ => rfl) ?_
      refine o_weak (sub_nilvec (R := T_law33_sight_rep) rfl) ?_
      refine o_append Try.underlying60 (info_i info153) (info_z info153) (info_all info153).2.1 rfl (info_all info153).2.2 rfl (look_tmp rfl) rfl (feeds_slice Try.underlying60 rfl (look_tmp rfl) rfl) (fun z6 z5 => ?_)
      refine o_assign rfl rfl guard_none (look_tmp rfl) (fun _ => rfl) ?_
      refine o_end ?_
      refine den_seq ?_
      refine den_seq ?_
      refine den_region rfl ?_
      refine o_move rfl rfl guard_none (look_tmp rfl) (fun _ => rfl) ?_
      refine o_end ?_
      refine den_bindA (A := Value) (fun z7α z7 => [(0, ⟨Rep.nilp, (), true⟩), (7, ⟨Rep.addr, (z1, 0), true⟩), (11, ⟨Rep.bool, z4, true⟩), (10, ⟨Rep.val1, z7α, true⟩)]) (fun z7α z7 => [.obj true z1 0 (.dat T_law33_Op_rep) x_3, .vec z7α (T_law33_sight_rep) z7]) ?_ (fun z7α z7 => ?_)
      · refine den_cond (look_tmp rfl) ?_ ?_
        · refine den_region rfl ?_
          refine o_move rfl rfl guard_none (look_tmp rfl) (fun _ => rfl) ?_
          refine o_faddr field68_1 type9 (by decide) rfl rfl guard_none (look_tmp rfl) (fun _ => rfl) ?_
          refine o_oloadi 1 rfl type9 T_law33_Op_foc1 rfl guard_none (look_tmp rfl) (fun _ => rfl) ?_
          refine o_faddr field68_2 type9 (by decide) rfl rfl guard_none (look_tmp rfl) (fun _ => rfl) ?_
          refine o_oloadi 1 rfl type9 T_law33_Op_foc2 rfl guard_none (look_tmp rfl) (fun _ => rfl) ?_
          refine o_build (R := T_law33_sight_rep0) (f := T_law33_sight_tup) (y := (⟨x_3.Who, x_3.Owner⟩ : T_law33_sight)) shape153 rfl rfl rfl rfl guard_none (bld_part rfl rfl (look_tmp rfl) (fun _ => rfl) (bld_part rfl rfl (look_tmp rfl) (fun _ => rfl) (bld_nil))) ?_
          refine o_bslice Try.underlying60 (info_i info153) (info_z info153) type153 rfl rfl rfl rfl rfl rfl guard_none (looksL_cons (look_tmp rfl) (fun _ => rfl) (looksL_nil)) ?_
          refine o_append Try.underlying60 (info_i info153) (info_z info153) (info_all info153).2.1 rfl (info_all info153).2.2 rfl (look_tmp rfl) rfl (feeds_slice Try.underlying60 rfl (look_tmp rfl) rfl) (fun z10 z9 => ?_)
          refine o_assign rfl rfl guard_none (look_tmp rfl) (fun _ => rfl) ?_
          refine o_end ?_
          refine den_endA z10 ((Sub.trans (sub_pick [1, 0] rfl rfl) (sub_env (sube_cons rfl (sube_cons rfl (sube_cons rfl (sube_cons rfl (sube_nil))))))))
        · refine den_skip ?_
          refine den_endA z6 ((Sub.trans (sub_pick [1, 0] rfl rfl) (sub_env (sube_cons rfl (sube_cons rfl (sube_cons rfl (sube_cons rfl (sube_nil))))))))
      refine den_seq ?_
      refine den_region rfl ?_
      refine o_move rfl rfl guard_none (look_tmp rfl) (fun _ => rfl) ?_
      refine o_move rfl rfl guard_none (look_tmp rfl) (fun _ => rfl) ?_
      refine o_faddr field68_1 type9 (by decide) rfl rfl guard_none (look_tmp rfl) (fun _ => rfl) ?_
      refine o_oloadi 0 rfl type9 T_law33_Op_foc1 rfl guard_none (look_tmp rfl) (fun _ => rfl) ?_
      refine o_faddr field68_2 type9 (by decide) rfl rfl guard_none (look_tmp rfl) (fun _ => rfl) ?_
      refine o_oloadi 0 rfl type9 T_law33_Op_foc2 rfl guard_none (look_tmp rfl) (fun _ => rfl) ?_
      refine o_call rfl rfl rfl callable34 (looks_cons (look_tmp rfl) (fun _ => rfl) (looks_cons (look_tmp rfl) (fun _ => rfl) (looks_cons (look_tmp rfl) (fun _ => rfl) (looks_nil)))) (wall_Wall_See_n0_ok _ _) (fun z8 => ?_)
      refine o_move rfl rfl guard_none (look_tmp rfl) (fun _ => rfl) ?_
      refine o_beql Try.underlying4 rfl rfl guard_none (look_tmp rfl) (look_tmp rfl) (fun _ => rfl) (fun _ => rfl) ?_
      refine o_assign rfl rfl guard_none (look_tmp rfl) (fun _ => rfl) ?_
      refine o_assign rfl rfl guard_none (look_tmp rfl) (fun _ => rfl) ?_
      refine o_end ?_
      refine den_code_ret ?_
      refine dene_ret ?_
      refine dene_weak (H' := [.vec z7α (T_law33_sight_rep) z7, .obj true z1 0 (.dat T_law33_Op_rep) x_3]) (sub_pick [1, 0] rfl rfl) ?_
      refine dene_weak (sub_freeze (s := 8) rfl) ?_
      exact dene_res (res2 rfl (rv_tmp rfl) (rv_tmp rfl))
    · refine den_skip ?_
      refine den_seq ?_
      refine den_seq ?_
      refine den_region rfl ?_
      refine o_faddr field68_0 type3 (by decide) rfl rfl guard_none (look_tmp rfl) (fun _ => rfl) ?_
      refine o_oloadi 0 rfl type3 T_law33_Op_foc0 rfl guard_none (look_tmp rfl) (fun _ => rfl) ?_
      refine o_eql rfl rfl guard_none (look_tmp rfl) (look_int rfl) (fun _ => rfl) (fun _ => rfl) ?_
      refine o_end ?_
      refine den_cond (look_tmp rfl) ?_ ?_
      · refine den_seq ?_
        refine den_seq ?_
        refine den_region rfl ?_
        refine o_assign rfl rfl guard_none (look_int rfl) (fun _ => rfl) ?_
        refine o_end ?_
        refine den_bindA (A := Value) (fun z11α z11 => [(0, ⟨Rep.nilp, (), true⟩), (2, ⟨(T_law33_sight_rep).slice, m_2, true⟩), (7, ⟨Rep.addr, (z1, 0), true⟩), (10, ⟨Rep.val1, z11α, true⟩)]) (fun z11α z11 => [.obj true z1 0 (.dat T_law33_Op_rep) x_3, .vec z11α (T_law33_sight_rep) z11]) ?_ (fun z11α z11 => ?_)
        · refine den_block ?_
          refine den_loopA (A := Value) (law33_step_n0_L1b m_2 x_3) (fun z14α z14 => [(12, ⟨Rep.int .i64, z14.1, true⟩), (0, ⟨Rep.nilp, (), true⟩), (2, ⟨(T_law33_sight_rep).slice, m_2, true⟩), (7, ⟨Rep.addr, (z1, 0), true⟩), (10, ⟨Rep.val1, z14α, true⟩)]) (fun z14α z14 => [.obj true z1 0 (.dat T_law33_Op_rep) x_3, .vec z14α (T_law33_sight_rep) z14.2]) (0, ([] : (List T_law33_sight))) (Value.slice none 0 0) (fun z14α z14 => ?_) ((Sub.trans (sub_nilvec (R := T_law33_sight_rep) rfl) (Sub.trans (sub_pick [1, 0] rfl rfl) (sub_env (sube_cons rfl (sube_cons rfl (sube_cons rfl (sube_cons rfl (sube_cons rfl (sube_nil))))))))))
          refine den_seq ?_
          refine den_seq ?_
          refine den_region rfl ?_
          refine o_move rfl rfl guard_none (look_tmp rfl) (fun _ => rfl) ?_
          refine o_move rfl rfl guard_none (look_tmp rfl) (fun _ => rfl) ?_
          refine o_llen Try.underlying60 rfl rfl guard_none (look_tmp rfl) (fun _ => rfl) ?_
          refine o_lss rfl rfl guard_none (look_tmp rfl) (look_tmp rfl) (fun _ => rfl) (fun _ => rfl) ?_
          refine o_end ?_
          refine den_cond (look_tmp rfl) ?_ ?_
          · refine den_skip ?_
            refine den_seq ?_
            refine den_block ?_
            refine den_seq ?_
            refine den_open (fun z15 h_z15 => ?_)
            refine den_draw [(66, ⟨(T_law33_sight_rep).slice, m_2, true⟩), (67, ⟨Rep.int .i64, z14.1, true⟩), (68, ⟨(T_law33_sight_rep).ptrTo, z15, true⟩), (69, ⟨(Rep.str).ptrTo, z15.who, true⟩), (70, ⟨Rep.str, z15.who, true⟩), (71, ⟨Rep.addr, (z1, 0 + 1), true⟩), (72, ⟨Rep.str, x_3.Who, true⟩), (73, ⟨Rep.bool, z15.who != x_3.Who, true⟩)] mixed rfl rfl ⟨?_, ?_, ?_, ?_, ?_, ?_, ?_, ?_, trivial⟩ ?_
            · intro S hc hk hp
              refine o_move rfl rfl guard_none (look_o rfl rfl) (fun _ => rfl) ?_
              exact d_end rfl rfl rfl
            · intro S hc hk hp
              refine o_move rfl rfl guard_none (look_o rfl rfl) (fun _ => rfl) ?_
              exact d_end rfl rfl rfl
            · intro S hc hk hp
              refine o_from (bind_eqO h_z15) ?_
              refine o_iaddr Try.underlying60 type153 rfl rfl (look_d rfl rfl (pr hp 0 rfl rfl)) (look_d rfl rfl (pr hp 1 rfl rfl)) rfl rfl (o_eqO ?_)
              exact d_end rfl rfl rfl
            · intro S hc hk hp
              refine o_fptr field153_0 type9 (by decide) T_law33_sight_foc0 rfl rfl guard_none (look_d rfl rfl (pr hp 0 rfl rfl)) (fun _ => rfl) ?_
              exact d_end rfl rfl rfl
            · intro S hc hk hp
              refine o_load type9 rfl rfl guard_none (look_d rfl rfl (pr hp 0 rfl rfl)) (fun _ => rfl) ?_
              exact d_end rfl rfl rfl
            · intro S hc hk hp
              refine o_faddr field68_1 type9 (by decide) rfl rfl guard_none (look_o rfl rfl) (fun _ => rfl) ?_
              exact d_end rfl rfl rfl
            · intro S hc hk hp
              refine o_oloadi 0 rfl type9 T_law33_Op_foc1 rfl guard_none (look_d rfl rfl (pr hp 0 rfl rfl)) (fun _ => rfl) ?_
              exact d_end rfl rfl rfl
            · intro S hc hk hp
              refine o_sneq rfl rfl guard_none (look_d rfl rfl (pr hp 0 rfl rfl)) (look_d rfl rfl (pr hp 1 rfl rfl)) (fun _ => rfl) (fun _ => rfl) ?_
              exact d_end rfl rfl rfl
            refine den_cond (look_tmp rfl) ?_ ?_
            · refine den_region rfl ?_
              refine o_move rfl rfl guard_none (look_tmp rfl) (fun _ => rfl) ?_
              refine o_move rfl rfl guard_none (look_tmp rfl) (fun _ => rfl) ?_
              refine o_move rfl rfl guard_none (look_tmp rfl) (fun _ => rfl) ?_
              refine o_iaddr Try.underlying60 type153 rfl rfl (look_tmp rfl) (look_tmp rfl) rfl rfl (fun z16 => ?_)
              refine o_load type153 rfl rfl guard_none (look_tmp rfl) (fun _ => rfl) ?_
              refine o_bslice Try.underlying60 (info_i info153) (info_z info153) type153 rfl rfl rfl rfl rfl rfl guard_none (looksL_cons (look_tmp rfl) (fun _ => rfl) (looksL_nil)) ?_
              refine o_weak (H' := [.vec z14α (T_law33_sight_rep) z14.2, .obj true z1 0 (.dat T_law33_Op_rep) x_3]) (sub_pick [1, 0] rfl rfl) ?_
              refine o_append Try.underlying60 (info_i info153) (info_z info153) (info_all info153).2.1 rfl (info_all info153).2.2 rfl (look_tmp rfl) rfl (feeds_slice Try.underlying60 rfl (look_tmp rfl) rfl) (fun z18 z17 => ?_)
              refine o_assign rfl rfl guard_none (look_tmp rfl) (fun _ => rfl) ?_
              refine o_end ?_
              refine den_blkend ?_
              refine den_region rfl ?_
              refine o_move rfl rfl guard_none (look_tmp rfl) (fun _ => rfl) ?_
              refine o_add rfl rfl guard_none (look_tmp rfl) (look_int rfl) (fun _ => rfl) (fun _ => rfl) ?_
              refine o_assign rfl rfl guard_none (look_tmp rfl) (fun _ => rfl) ?_
              refine o_end ?_
              refine den_nextA z18 ((Sub.trans (sub_pick [1, 0] rfl rfl) (sub_env (sube_cons rfl (sube_cons rfl (sube_cons rfl (sube_cons rfl (sube_cons rfl (sube_nil)))))))))
            · refine den_skip ?_
              refine den_blkend ?_
              refine den_region rfl ?_
              refine o_move rfl rfl guard_none (look_tmp rfl) (fun _ => rfl) ?_
              refine o_add rfl rfl guard_none (look_tmp rfl) (look_int rfl) (fun _ => rfl) (fun _ => rfl) ?_
              refine o_assign rfl rfl guard_none (look_tmp rfl) (fun _ => rfl) ?_
              refine o_end ?_
              refine den_nextA z14α ((sub_env (sube_cons rfl (sube_cons rfl (sube_cons rfl (sube_cons rfl (sube_cons rfl (sube_nil))))))))
          · refine den_code_exit ?_
            refine dene_out rfl ?_
            refine dene_loopA (by simp) ?_
            refine dene_to rfl ?_
            refine den_endA z14α ((sub_env (sube_cons rfl (sube_cons rfl (sube_cons rfl (sube_cons rfl (sube_nil)))))))
        refine den_seq ?_
        refine den_open (fun z12 h_z12 => ?_)
        refine den_open (fun z13 h_z13 => ?_)
        refine den_draw [(81, ⟨Rep.val1, z11α, true⟩), (82, ⟨Rep.nilp, (), true⟩), (83, ⟨Rep.addr, (z1, 0 + 1), true⟩), (84, ⟨Rep.str, x_3.Who, true⟩), (85, ⟨Rep.int .i64, z12, true⟩), (86, ⟨(T_law33_sight_rep).slice, m_2, true⟩), (87, ⟨Rep.addr, (z1, 0 + 1), true⟩), (88, ⟨Rep.str, x_3.Who, true⟩), (89, ⟨(Rep.str).slice, z13, true⟩), (90, ⟨Rep.int .i64, (z13.length : Int), true⟩), (91, ⟨Rep.bool, z12 == (z13.length : Int), true⟩), (8, ⟨Rep.val1, z11α, true⟩), (9, ⟨Rep.bool, z12 == (z13.length : Int), true⟩)] mixed rfl rfl ⟨?_, ?_, ?_, ?_, ?_, ?_, ?_, ?_, ?_, ?_, ?_, ?_, ?_, trivial⟩ ?_
        · intro S hc hk hp
          refine o_move rfl rfl guard_none (look_o rfl rfl) (fun _ => rfl) ?_
          exact d_end rfl rfl rfl
        · intro S hc hk hp
          refine o_move rfl rfl guard_none (look_o rfl rfl) (fun _ => rfl) ?_
          exact d_end rfl rfl rfl
        · intro S hc hk hp
          refine o_faddr field68_1 type9 (by decide) rfl rfl guard_none (look_o rfl rfl) (fun _ => rfl) ?_
          exact d_end rfl rfl rfl
        · intro S hc hk hp
          refine o_oloadi 0 rfl type9 T_law33_Op_foc1 rfl guard_none (look_d rfl rfl (pr hp 0 rfl rfl)) (fun _ => rfl) ?_
          exact d_end rfl rfl rfl
        · intro S hc hk hp
          refine o_from (bind_eqO h_z12) ?_
          refine o_call rfl rfl rfl callable33 (looks_cons (look_d rfl rfl (pr hp 0 rfl rfl)) (fun _ => rfl) (looks_cons (look_d rfl rfl (pr hp 1 rfl rfl)) (fun _ => rfl) (looks_nil))) (wall_Wall_Forget_n0_ok _) (o_eqO ?_)
          exact d_end rfl rfl rfl
        · intro S hc hk hp
          refine o_move rfl rfl guard_none (look_o rfl rfl) (fun _ => rfl) ?_
          exact d_end rfl rfl rfl
        · intro S hc hk hp
          refine o_faddr field68_1 type9 (by decide) rfl rfl guard_none (look_o rfl rfl) (fun _ => rfl) ?_
          exact d_end rfl rfl rfl
        · intro S hc hk hp
          refine o_oloadi 0 rfl type9 T_law33_Op_foc1 rfl guard_none (look_d rfl rfl (pr hp 0 rfl rfl)) (fun _ => rfl) ?_
          exact d_end rfl rfl rfl
        · intro S hc hk hp
          refine o_from (bind_eqO h_z13) ?_
          refine o_call rfl rfl rfl callable95 (looks_cons (look_d rfl rfl (pr hp 0 rfl rfl)) (fun _ => rfl) (looks_cons (look_d rfl rfl (pr hp 1 rfl rfl)) (fun _ => rfl) (looks_nil))) (law33_of_ok _ _) (o_eqO ?_)
          exact d_end rfl rfl rfl
        · intro S hc hk hp
          refine o_llen Try.underlying36 rfl rfl guard_none (look_d rfl rfl (pr hp 0 rfl rfl)) (fun _ => rfl) ?_
          exact d_end rfl rfl rfl
        · intro S hc hk hp
          refine o_eql rfl rfl guard_none (look_d rfl rfl (pr hp 0 rfl rfl)) (look_d rfl rfl (pr hp 1 rfl rfl)) (fun _ => rfl) (fun _ => rfl) ?_
          exact d_end rfl rfl rfl
        · intro S hc hk hp
          refine o_assign rfl rfl guard_none (look_d rfl rfl (pr hp 0 rfl rfl)) (fun _ => rfl) ?_
          exact d_end rfl rfl rfl
        · intro S hc hk hp
          refine o_assign rfl rfl guard_none (look_d rfl rfl (pr hp 0 rfl rfl)) (fun _ => rfl) ?_
          exact d_end rfl rfl rfl
        refine den_code_ret ?_
        refine dene_ret ?_
        refine dene_weak (H' := [.vec z11α (T_law33_sight_rep) z11, .obj true z1 0 (.dat T_law33_Op_rep) x_3]) (sub_pick [1, 0] rfl rfl) ?_
        refine dene_weak (sub_freeze (s := 8) rfl) ?_
        exact dene_res (res2 rfl (rv_tmp rfl) (rv_tmp rfl))
      · refine den_skip ?_
        refine den_seq ?_
        refine den_seq ?_
        refine den_region rfl ?_
        refine o_faddr field68_0 type3 (by decide) rfl rfl guard_none (look_tmp rfl) (fun _ => rfl) ?_
        refine o_oloadi 0 rfl type3 T_law33_Op_foc0 rfl guard_none (look_tmp rfl) (fun _ => rfl) ?_
        refine o_eql rfl rfl guard_none (look_tmp rfl) (look_int rfl) (fun _ => rfl) (fun _ => rfl) ?_
        refine o_end ?_
        refine den_cond (look_tmp rfl) ?_ ?_
        · refine den_seq ?_
          refine den_open (fun z19 h_z19 => ?_)
          refine den_open (fun z20 h_z20 => ?_)
          refine den_open (fun z21 h_z21 => ?_)
          refine den_draw [(95, ⟨(T_law33_sight_rep).slice, m_2, true⟩), (96, ⟨Rep.nilp, (), true⟩), (97, ⟨Rep.addr, (z1, 0 + 1), true⟩), (98, ⟨Rep.str, x_3.Who, true⟩), (99, ⟨(Rep.str).slice, z19, true⟩), (100, ⟨(T_law33_sight_rep).slice, m_2, true⟩), (101, ⟨Rep.addr, (z1, 0 + 1), true⟩), (102, ⟨Rep.str, x_3.Who, true⟩), (103, ⟨(Rep.str).slice, z20, true⟩), (104, ⟨Rep.bool, z21, true⟩), (8, ⟨(T_law33_sight_rep).slice, m_2, true⟩), (9, ⟨Rep.bool, z21, true⟩)] mixed rfl rfl ⟨?_, ?_, ?_, ?_, ?_, ?_, ?_, ?_, ?_, ?_, ?_, ?_, trivial⟩ ?_
          · intro S hc hk hp
            refine o_move rfl rfl guard_none (look_o rfl rfl) (fun _ => rfl) ?_
            exact d_end rfl rfl rfl
          · intro S hc hk hp
            refine o_move rfl rfl guard_none (look_o rfl rfl) (fun _ => rfl) ?_
            exact d_end rfl rfl rfl
          · intro S hc hk hp
            refine o_faddr field68_1 type9 (by decide) rfl rfl guard_none (look_o rfl rfl) (fun _ => rfl) ?_
            exact d_end rfl rfl rfl
          · intro S hc hk hp
            refine o_oloadi 0 rfl type9 T_law33_Op_foc1 rfl guard_none (look_d rfl rfl (pr hp 0 rfl rfl)) (fun _ => rfl) ?_
            exact d_end rfl rfl rfl
          · intro S hc hk hp
            refine o_from (bind_eqO h_z19) ?_
            refine o_call rfl rfl rfl callable36 (looks_cons (look_d rfl rfl (pr hp 0 rfl rfl)) (fun _ => rfl) (looks_cons (look_d rfl rfl (pr hp 1 rfl rfl)) (fun _ => rfl) (looks_nil))) (wall_Wall_Seen_n0_ok _) (o_eqO ?_)
            exact d_end rfl rfl rfl
          · intro S hc hk hp
            refine o_move rfl rfl guard_none (look_o rfl rfl) (fun _ => rfl) ?_
            exact d_end rfl rfl rfl
          · intro S hc hk hp
            refine o_faddr field68_1 type9 (by decide) rfl rfl guard_none (look_o rfl rfl) (fun _ => rfl) ?_
            exact d_end rfl rfl rfl
          · intro S hc hk hp
            refine o_oloadi 0 rfl type9 T_law33_Op_foc1 rfl guard_none (look_d rfl rfl (pr hp 0 rfl rfl)) (fun _ => rfl) ?_
            exact d_end rfl rfl rfl
          · intro S hc hk hp
            refine o_from (bind_eqO h_z20) ?_
            refine o_call rfl rfl rfl callable95 (looks_cons (look_d rfl rfl (pr hp 0 rfl rfl)) (fun _ => rfl) (looks_cons (look_d rfl rfl (pr hp 1 rfl rfl)) (fun _ => rfl) (looks_nil))) (law33_of_ok _ _) (o_eqO ?_)
            exact d_end rfl rfl rfl
          · intro S hc hk hp
            refine o_from (bind_eqO h_z21) ?_
            refine o_call rfl rfl rfl callable24 (looks_cons (look_d rfl rfl (pr hp 0 rfl rfl)) (fun _ => rfl) (looks_cons (look_d rfl rfl (pr hp 1 rfl rfl)) (fun _ => rfl) (looks_nil))) (plain_Texts_ok _ _) (o_eqO ?_)
            exact d_end rfl rfl rfl
          · intro S hc hk hp
            refine o_assign rfl rfl guard_none (look_d rfl rfl (pr hp 0 rfl rfl)) (fun _ => rfl) ?_
            exact d_end rfl rfl rfl
          · intro S hc hk hp
            refine o_assign rfl rfl guard_none (look_d rfl rfl (pr hp 0 rfl rfl)) (fun _ => rfl) ?_
            exact d_end rfl rfl rfl
          refine den_code_ret ?_
          refine dene_ret ?_
          exact dene_res (res2 rfl (rv_tmp rfl) (rv_tmp rfl))
        · refine den_skip ?_
          refine den_seq ?_
          refine den_region rfl ?_
          refine o_assign rfl rfl guard_none look_nil1 (fun _ => rfl) ?_
          refine o_end ?_
          refine den_seq ?_
          refine den_region rfl ?_
          refine o_move rfl rfl guard_none (look_tmp rfl) (fun _ => rfl) ?_
          refine o_move rfl rfl guard_none (look_tmp rfl) (fun _ => rfl) ?_
          refine o_faddr field68_1 type9 (by decide) rfl rfl guard_none (look_tmp rfl) (fun _ => rfl) ?_
          refine o_oloadi 0 rfl type9 T_law33_Op_foc1 rfl guard_none (look_tmp rfl) (fun _ => rfl) ?_
          refine o_call rfl rfl rfl callable95 (looks_cons (look_tmp rfl) (fun _ => rfl) (looks_cons (look_tmp rfl) (fun _ => rfl) (looks_nil))) (law33_of_ok _ _) (fun z22 => ?_)
          refine o_weak (sub_nilvec (R := Rep.str) rfl) ?_
          refine o_append Try.underlying36 (info_i info9) (info_z info9) (info_all info9).2.1 rfl (info_all info9).2.2 rfl (look_tmp rfl) rfl (feeds_slice Try.underlying36 rfl (look_tmp rfl) rfl) (fun z24 z23 => ?_)
          refine o_assign rfl rfl guard_none (look_tmp rfl) (fun _ => rfl) ?_
          refine o_end ?_
          refine den_seq ?_
          refine den_region rfl ?_
          refine o_move rfl rfl guard_none (look_tmp rfl) (fun _ => rfl) ?_
          refine o_move rfl rfl guard_none (look_tmp rfl) (fun _ => rfl) ?_
          refine o_faddr field68_2 type9 (by decide) rfl rfl guard_none (look_tmp rfl) (fun _ => rfl) ?_
          refine o_oloadi 1 rfl type9 T_law33_Op_foc2 rfl guard_none (look_tmp rfl) (fun _ => rfl) ?_
          refine o_call rfl rfl rfl callable95 (looks_cons (look_tmp rfl) (fun _ => rfl) (looks_cons (look_tmp rfl) (fun _ => rfl) (looks_nil))) (law33_of_ok _ _) (fun z25 => ?_)
          refine o_append Try.underlying36 (info_i info9) (info_z info9) (info_all info9).2.1 rfl (info_all info9).2.2 rfl (look_tmp rfl) rfl (feeds_slice Try.underlying36 rfl (look_tmp rfl) rfl) (fun z27 z26 => ?_)
          refine o_assign rfl rfl guard_none (look_tmp rfl) (fun _ => rfl) ?_
          refine o_end ?_
          refine den_seq ?_
          refine den_region rfl ?_
          refine o_move rfl rfl guard_none (look_tmp rfl) (fun _ => rfl) ?_
          refine o_move rfl rfl guard_none (look_tmp rfl) (fun _ => rfl) ?_
          refine o_faddr field68_1 type9 (by decide) rfl rfl guard_none (look_tmp rfl) (fun _ => rfl) ?_
          refine o_oloadi 1 rfl type9 T_law33_Op_foc1 rfl guard_none (look_tmp rfl) (fun _ => rfl) ?_
          refine o_faddr field68_2 type9 (by decide) rfl rfl guard_none (look_tmp rfl) (fun _ => rfl) ?_
          refine o_oloadi 1 rfl type9 T_law33_Op_foc2 rfl guard_none (look_tmp rfl) (fun _ => rfl) ?_
          refine o_call rfl rfl rfl callable37 (looks_cons (look_tmp rfl) (fun _ => rfl) (looks_cons (look_tmp rfl) (fun _ => rfl) (looks_cons (look_tmp rfl) (fun _ => rfl) (looks_nil)))) (wall_Wall_Leak_n0_ok _ _) (fun z28 => ?_)
          refine o_move rfl rfl guard_none (look_tmp rfl) (fun _ => rfl) ?_
          refine o_move rfl rfl guard_none (look_tmp rfl) (fun _ => rfl) ?_
          refine o_lend1 false rfl rfl rfl rfl guard_none callable35 (looksM_c (look_tmp rfl) (fun _ => rfl) (looksM_l 0 rfl (lookl_wholeg (.inl rfl) (look_tmp rfl) (fun _ => rfl)) (looksM_nil))) fl_bool (law33_clash_ok _ _) (fun z29 => ?_)
          refine o_beql Try.underlying4 rfl rfl guard_none (look_tmp rfl) (look_tmp rfl) (fun _ => rfl) (fun _ => rfl) ?_
          refine o_assign rfl rfl guard_none (look_tmp rfl) (fun _ => rfl) ?_
          refine o_assign rfl rfl guard_none (look_tmp rfl) (fun _ => rfl) ?_
          refine o_end ?_
          refine den_code_ret ?_
          exact dene_res (res2 rfl (rv_tmp rfl) (rv_tmp rfl))

theorem law33_run_n0_ok  (l_1 : (List T_wall_Owner)) (m_2 : (List T_law33_sight)) (ops_3 : (List T_law33_Op)) : FunOk Try.prog 30 [⟨.nilp, (), true⟩, ⟨(T_wall_Owner_rep).slice, l_1, true⟩, ⟨(T_law33_sight_rep).slice, m_2, true⟩, ⟨(T_law33_Op_rep).slice, ops_3, true⟩] (law33_run_n0 l_1 m_2 ops_3) (Rep.pair ((T_law33_sight_rep).slice) (Rep.bool)) := by
  refine fun_ok Try.func30 rfl Try.ntmps30 rfl (all_cons rfl (all_cons rfl (all_cons rfl (all_cons rfl all_nil)))) (fun w0 ok0 => ?_)
  refine den_seq ?_
  refine den_region rfl ?_
  refine o_assign rfl rfl guard_none look_nil1 (fun _ => rfl) ?_
  refine o_assign rfl rfl guard_none look_bool (fun _ => rfl) ?_
  refine o_end ?_
  refine den_seq ?_
  refine den_region rfl ?_
  refine o_assign rfl rfl guard_none look_bool (fun _ => rfl) ?_
  refine o_end ?_
  refine den_seq ?_
  refine den_seq ?_
  refine den_region rfl ?_
  refine o_assign rfl rfl guard_none (look_int rfl) (fun _ => rfl) ?_
  refine o_end ?_
  refine den_bind (fun z1 => [(2, ⟨(T_law33_sight_rep).slice, z1.1, true⟩), (10, ⟨Rep.bool, z1.2, true⟩)]) (fun z1 => []) ?_ (fun z1 => ?_)
  · refine den_block ?_
    refine den_loop (law33_run_n0_L1b l_1 ops_3) (fun z2 => [(2, ⟨(T_law33_sight_rep).slice, z2.1, true⟩), (10, ⟨Rep.bool, z2.2.1, true⟩), (11, ⟨Rep.int .i64, z2.2.2, true⟩), (0, ⟨Rep.nilp, (), true⟩), (1, ⟨(T_wall_Owner_rep).slice, l_1, true⟩), (3, ⟨(T_law33_Op_rep).slice, ops_3, true⟩)]) (fun z2 => []) (m_2, true, 0) (fun z2 => ?_) ((sub_env (sube_cons rfl (sube_cons rfl (sube_cons rfl (sube_cons rfl (sube_cons rfl (sube_cons rfl (sube_nil)))))))))
    refine den_seq ?_
    refine den_seq ?_
    refine den_region rfl ?_
    refine o_move rfl rfl guard_none (look_tmp rfl) (fun _ => rfl) ?_
    refine o_move rfl rfl guard_none (look_tmp rfl) (fun _ => rfl) ?_
    refine o_llen Try.underlying59 rfl rfl guard_none (look_tmp rfl) (fun _ => rfl) ?_
    refine o_lss rfl rfl guard_none (look_tmp rfl) (look_tmp rfl) (fun _ => rfl) (fun _ => rfl) ?_
    refine o_move rfl rfl guard_none (look_tmp rfl) (fun _ => rfl) ?_
    refine o_move rfl rfl (guard_some rfl rfl rfl) (look_tmp rfl) (fun _ => rfl) ?_
    refine o_pick rfl rfl guard_none (look_tmp rfl) (look_tmp rfl) look_bool (fun _ => rfl) (fun h1 h2 => pick_t ((fun _ => rfl) h1) h2) (fun _ _ => rfl) ?_
    refine o_end ?_
    refine den_cond (look_tmp rfl) ?_ ?_
    · refine den_skip ?_
      refine den_seq ?_
      refine den_block ?_
      refine den_region rfl ?_
      refine o_move rfl rfl guard_none (look_tmp rfl) (fun _ => rfl) ?_
      refine o_move rfl rfl guard_none (look_tmp rfl) (fun _ => rfl) ?_
      refine o_move rfl rfl guard_none (look_tmp rfl) (fun _ => rfl) ?_
      refine o_move rfl rfl guard_none (look_tmp rfl) (fun _ => rfl) ?_
      refine o_move rfl rfl guard_none (look_tmp rfl) (fun _ => rfl) ?_
      refine o_iaddr Try.underlying59 type68 rfl rfl (look_tmp rfl) (look_tmp rfl) rfl rfl (fun z3 => ?_)
      refine o_load type68 rfl rfl guard_none (look_tmp rfl) (fun _ => rfl) ?_
      refine o_call rfl rfl rfl callable62 (looks_cons (look_tmp rfl) (fun _ => rfl) (looks_cons (look_tmp rfl) (fun _ => rfl) (looks_cons (look_tmp rfl) (fun _ => rfl) (looks_cons (look_tmp rfl) (fun _ => rfl) (looks_nil))))) (law33_step_n0_ok _ _ _) (fun z4 => ?_)
      refine o_move rfl rfl guard_none (look_tmp rfl) (fun _ => rfl) ?_
      refine o_fst rfl rfl guard_none (look_tmp rfl) (fun _ => rfl) ?_
      refine o_snd rfl rfl guard_none (look_tmp rfl) (fun _ => rfl) ?_
      refine o_assign rfl rfl guard_none (look_tmp rfl) (fun _ => rfl) ?_
      refine o_assign rfl rfl guard_none (look_tmp rfl) (fun _ => rfl) ?_
      refine o_end ?_
      refine den_blkend ?_
      refine den_region rfl ?_
      refine o_move rfl rfl guard_none (look_tmp rfl) (fun _ => rfl) ?_
      refine o_add rfl rfl guard_none (look_tmp rfl) (look_int rfl) (fun _ => rfl) (fun _ => rfl) ?_
      refine o_assign rfl rfl guard_none (look_tmp rfl) (fun _ => rfl) ?_
      refine o_end ?_
      refine den_next ((sub_env (sube_cons rfl (sube_cons rfl (sube_cons rfl (sube_cons rfl (sube_cons rfl (sube_cons rfl (sube_nil)))))))))
    · refine den_code_exit ?_
      refine dene_out rfl ?_
      refine dene_loop (by simp) ?_
      refine dene_to rfl ?_
      refine den_end ((sub_env (sube_cons rfl (sube_cons rfl (sube_nil)))))
  refine den_seq ?_
  refine den_region rfl ?_
  refine o_move rfl rfl guard_none (look_tmp rfl) (fun _ => rfl) ?_
  refine o_move rfl rfl guard_none (look_tmp rfl) (fun _ => rfl) ?_
  refine o_assign rfl rfl guard_none (look_tmp rfl) (fun _ => rfl) ?_
  refine o_assign rfl rfl guard_none (look_tmp rfl) (fun _ => rfl) ?_
  refine o_end ?_
  refine den_code_ret ?_
  exact dene_res (res2 rfl (rv_tmp rfl) (rv_tmp rfl))

theorem wall_Wall_Clone_n0_ok   : FunOk Try.prog 40 [⟨.nilp, (), true⟩] (wall_Wall_Clone_n0) (Rep.nilp) := by
  refine fun_ok Try.func40 rfl Try.ntmps40 rfl (all_cons rfl all_nil) (fun w0 ok0 => ?_)
  refine den_seq ?_
  refine den_region rfl ?_
  refine o_assign rfl rfl guard_none look_nilp (fun _ => rfl) ?_
  refine o_end ?_
  refine den_seq ?_
  refine den_seq ?_
  refine den_region rfl ?_
  refine o_move rfl rfl guard_none (look_tmp rfl) (fun _ => rfl) ?_
  refine o_call rfl rfl rfl callable63 (looks_cons (look_tmp rfl) (fun _ => rfl) (looks_nil)) (wall_Wall_made_n0_ok) (fun z1 => ?_)
  refine o_not rfl rfl guard_none (look_tmp rfl) (fun _ => rfl) ?_
  refine o_end ?_
  refine den_cond (look_tmp rfl) ?_ ?_
  · refine den_seq ?_
    refine den_region rfl ?_
    refine o_assign rfl rfl guard_none look_nilp (fun _ => rfl) ?_
    refine o_end ?_
    refine den_code_ret ?_
    refine dene_ret ?_
    exact dene_res (res1 rfl (rv_tmp rfl))
  · refine den_skip ?_
    refine den_seq ?_
    exact den_none

end Go.Proofs.Ytijfebipalhhjaa.M
