/- That the Go functions answer as the plain ones: written by gen2.py. -/
import Derived.Test.YtijfebipalhhjaaOks2
namespace Go.Proofs.Ytijfebipalhhjaa.M
open Go.Eng Go
set_option linter.unusedVariables false

set_option maxHeartbeats 1000000 in
theorem law33_WallClones_ok  (l_0 : (List T_wall_Owner)) (a_1 : (List T_law33_Op)) (b_2 : (List T_law33_Op)) (c_3 : (List T_law33_Op)) : FunOk Try.prog 10 [⟨(T_wall_Owner_rep).slice, l_0, true⟩, ⟨(T_law33_Op_rep).slice, a_1, true⟩, ⟨(T_law33_Op_rep).slice, b_2, true⟩, ⟨(T_law33_Op_rep).slice, c_3, true⟩] (law33_WallClones l_0 a_1 b_2 c_3) (Rep.bool) := by
  refine fun_ok Try.func10 rfl Try.ntmps10 rfl (all_cons rfl (all_cons rfl (all_cons rfl (all_cons rfl all_nil)))) (fun w0 ok0 => ?_)
  refine den_seq ?_
  refine den_region rfl ?_
  refine o_assign rfl rfl guard_none look_bool (fun _ => rfl) ?_
  refine o_end ?_
  refine den_seq ?_
  refine den_seq ?_
  refine den_region rfl ?_
  refine o_call rfl rfl rfl callable29 (looks_nil) (law33_alive_ok) (fun z1 => ?_)
  refine o_not rfl rfl guard_none (look_tmp rfl) (fun _ => rfl) ?_
  refine o_end ?_
  refine den_cond (look_tmp rfl) ?_ ?_
  · refine den_seq ?_
    refine den_region rfl ?_
    refine o_assign rfl rfl guard_none look_bool (fun _ => rfl) ?_
    refine o_end ?_
    refine den_code_ret ?_
    refine dene_ret ?_
    exact dene_res (res1 rfl (rv_tmp rfl))
  · refine den_skip ?_
    refine den_seq ?_
    refine den_region rfl ?_
    refine o_move rfl rfl guard_none (look_tmp rfl) (fun _ => rfl) ?_
    refine o_weak (H' := [] ++ ([] ++ [])) (sub_pick [] rfl rfl) ?_
    refine o_callU rfl rfl rfl rfl rfl callable31 (looks_cons (look_tmp rfl) (fun _ => rfl) (looks_nil)) .nil (wall_New_ok l_0) (fun _ _ => (wr_c (wr_c (wr_c (wr_c wr_n))))) (fun z3α z2 => ?_)
    obtain ⟨⟨z4, z5⟩, z6, z7, z8⟩ := z3α
    refine o_weak (H' := [.obj true 0 0 (mrep z6 (Rep.str) (T_wall_class_rep)) z2.of, .obj true 0 0 (mrep z7 (T_wall_sight_rep) (Rep.int .i64)) z2.seen, .obj true 0 0 (mrep z8 (T_wall_share_rep) (Rep.int .i64)) z2.has, .obj true z4 z5 (.dat (T_wall_Wall_repo z6 z7 z8)) z2]) (sub_pick [0, 1, 2, 3] rfl rfl) ?_
    refine o_assign rfl rfl guard_none (look_tmp rfl) (fun _ => rfl) ?_
    refine o_end ?_
    refine den_seq ?_
    refine den_region rfl ?_
    refine o_move rfl rfl guard_none (look_tmp rfl) (fun _ => rfl) ?_
    refine o_move rfl rfl guard_none (look_tmp rfl) (fun _ => rfl) ?_
    refine o_move rfl rfl guard_none (look_tmp rfl) (fun _ => rfl) ?_
    refine o_call rfl rfl rfl callable32 (looks_cons (look_tmp rfl) (fun _ => rfl) (looks_nil)) (law33_few_ok _) (fun z9 => ?_)
    refine o_weak (H' := [.obj true 0 0 (mrep z6 (Rep.str) (T_wall_class_rep)) z2.of, .obj true 0 0 (mrep z7 (T_wall_sight_rep) (Rep.int .i64)) z2.seen, .obj true 0 0 (mrep z8 (T_wall_share_rep) (Rep.int .i64)) z2.has, .obj true z4 z5 (.dat (T_wall_Wall_repo z6 z7 z8)) z2] ++ ([] ++ [])) (sub_pick [0, 1, 2, 3] rfl rfl) ?_
    refine o_callU rfl rfl rfl rfl rfl callable30 (looks_cons (look_tmp rfl) (fun _ => rfl) (looks_cons (look_tmp rfl) (fun _ => rfl) (looks_cons (look_nild (R := T_law33_sight_rep)) (fun _ => rfl) (looks_cons (look_tmp rfl) (fun _ => rfl) (looks_nil))))) .nil (law33_run_ok _ _ _ _ _ z2 l_0 ([] : (List T_law33_sight)) z9) (fun _ _ => (wr_c (wr_c (wr_c (wr_c wr_n))))) (fun z11α z10 => ?_)
    obtain ⟨z12, z13, z14⟩ := z11α
    refine o_weak (H' := [.obj true 0 0 (mrep z12 (Rep.str) (T_wall_class_rep)) z10.2.2.of, .obj true 0 0 (mrep z13 (T_wall_sight_rep) (Rep.int .i64)) z10.2.2.seen, .obj true 0 0 (mrep z14 (T_wall_share_rep) (Rep.int .i64)) z10.2.2.has, .obj true z4 z5 (.dat (T_wall_Wall_repo z12 z13 z14)) z10.2.2]) (sub_pick [0, 1, 2, 3] rfl rfl) ?_
    refine o_move rfl rfl guard_none (look_tmp rfl) (fun _ => rfl) ?_
    refine o_fst rfl rfl guard_none (look_tmp rfl) (fun _ => rfl) ?_
    refine o_snd rfl rfl guard_none (look_tmp rfl) (fun _ => rfl) ?_
    refine o_assign rfl rfl guard_none (look_tmp rfl) (fun _ => rfl) ?_
    refine o_assign rfl rfl guard_none (look_tmp rfl) (fun _ => rfl) ?_
    refine o_end ?_
    refine den_seq ?_
    refine den_region rfl ?_
    refine o_move rfl rfl guard_none (look_tmp rfl) (fun _ => rfl) ?_
    refine o_weak (H' := [] ++ ([.obj true 0 0 (mrep z12 (Rep.str) (T_wall_class_rep)) z10.2.2.of, .obj true 0 0 (mrep z13 (T_wall_sight_rep) (Rep.int .i64)) z10.2.2.seen, .obj true 0 0 (mrep z14 (T_wall_share_rep) (Rep.int .i64)) z10.2.2.has, .obj true z4 z5 (.dat (T_wall_Wall_repo z12 z13 z14)) z10.2.2] ++ [])) (sub_pick [0, 1, 2, 3] rfl rfl) ?_
    refine o_callU rfl rfl rfl rfl rfl callable40 (looks_cons (look_tmp rfl) (fun _ => rfl) (looks_nil)) (.cons (.cons (.cons (.cons .nil)))) (wall_Wall_Clone_ok _ _ _ _ _ z10.2.2) (fun _ _ => (wr_ol (fun _ => (wr_c (wr_c (wr_c (wr_c wr_n))))) wr_n)) (fun z16α z15 => ?_)
    obtain ⟨⟨z17, z18⟩, z19, z20, z21⟩ := z16α
    rcases z15 with _ | z22
    · refine o_weak (H' := [.obj true 0 0 (mrep z12 (Rep.str) (T_wall_class_rep)) z10.2.2.of, .obj true 0 0 (mrep z13 (T_wall_sight_rep) (Rep.int .i64)) z10.2.2.seen, .obj true 0 0 (mrep z14 (T_wall_share_rep) (Rep.int .i64)) z10.2.2.has, .obj true z4 z5 (.dat (T_wall_Wall_repo z12 z13 z14)) z10.2.2]) (sub_pick [0, 1, 2, 3] rfl rfl) ?_
      refine o_asnil ?_
      refine o_optn ?_
      refine o_assign rfl rfl guard_none (look_tmp rfl) (fun _ => rfl) ?_
      refine o_end ?_
      refine den_seq ?_
      refine den_region rfl ?_
      refine o_move rfl rfl guard_none (look_tmp rfl) (fun _ => rfl) ?_
      refine o_move rfl rfl guard_none (look_tmp rfl) (fun _ => rfl) ?_
      refine o_move rfl rfl guard_none (look_tmp rfl) (fun _ => rfl) ?_
      refine o_move rfl rfl guard_none (look_tmp rfl) (fun _ => rfl) ?_
      refine o_call rfl rfl rfl callable32 (looks_cons (look_tmp rfl) (fun _ => rfl) (looks_nil)) (law33_few_ok _) (fun z23 => ?_)
      refine o_weak (H' := [.obj true 0 0 (mrep z12 (Rep.str) (T_wall_class_rep)) z10.2.2.of, .obj true 0 0 (mrep z13 (T_wall_sight_rep) (Rep.int .i64)) z10.2.2.seen, .obj true 0 0 (mrep z14 (T_wall_share_rep) (Rep.int .i64)) z10.2.2.has, .obj true z4 z5 (.dat (T_wall_Wall_repo z12 z13 z14)) z10.2.2] ++ ([] ++ [])) (sub_pick [0, 1, 2, 3] rfl rfl) ?_
      refine o_callU rfl rfl rfl rfl rfl callable30 (looks_cons (look_tmp rfl) (fun _ => rfl) (looks_cons (look_tmp rfl) (fun _ => rfl) (looks_cons (look_tmp rfl) (fun _ => rfl) (looks_cons (look_tmp rfl) (fun _ => rfl) (looks_nil))))) .nil (law33_run_ok _ _ _ _ _ z10.2.2 l_0 z10.1 z23) (fun _ _ => (wr_c (wr_c (wr_c (wr_c wr_n))))) (fun z25α z24 => ?_)
      obtain ⟨z26, z27, z28⟩ := z25α
      refine o_weak (H' := [.obj true 0 0 (mrep z26 (Rep.str) (T_wall_class_rep)) z24.2.2.of, .obj true 0 0 (mrep z27 (T_wall_sight_rep) (Rep.int .i64)) z24.2.2.seen, .obj true 0 0 (mrep z28 (T_wall_share_rep) (Rep.int .i64)) z24.2.2.has, .obj true z4 z5 (.dat (T_wall_Wall_repo z26 z27 z28)) z24.2.2]) (sub_pick [0, 1, 2, 3] rfl rfl) ?_
      refine o_move rfl rfl guard_none (look_tmp rfl) (fun _ => rfl) ?_
      refine o_fst rfl rfl guard_none (look_tmp rfl) (fun _ => rfl) ?_
      refine o_snd rfl rfl guard_none (look_tmp rfl) (fun _ => rfl) ?_
      refine o_assign rfl rfl guard_none (look_tmp rfl) (fun _ => rfl) ?_
      refine o_assign rfl rfl guard_none (look_tmp rfl) (fun _ => rfl) ?_
      refine o_end ?_
      refine den_seq ?_
      refine den_region rfl ?_
      refine o_move rfl rfl guard_none (look_tmp rfl) (fun _ => rfl) ?_
      refine o_move rfl rfl guard_none (look_tmp rfl) (fun _ => rfl) ?_
      refine o_move rfl rfl guard_none (look_tmp rfl) (fun _ => rfl) ?_
      refine o_move rfl rfl guard_none (look_tmp rfl) (fun _ => rfl) ?_
      refine o_call rfl rfl rfl callable32 (looks_cons (look_tmp rfl) (fun _ => rfl) (looks_nil)) (law33_few_ok _) (fun z29 => ?_)
      refine o_call rfl rfl rfl callable30 (looks_cons (look_tmp rfl) (fun _ => rfl) (looks_cons (look_tmp rfl) (fun _ => rfl) (looks_cons (look_tmp rfl) (fun _ => rfl) (looks_cons (look_tmp rfl) (fun _ => rfl) (looks_nil))))) (law33_run_n0_ok _ _ _) (fun z30 => ?_)
      refine o_move rfl rfl guard_none (look_tmp rfl) (fun _ => rfl) ?_
      refine o_fst rfl rfl guard_none (look_tmp rfl) (fun _ => rfl) ?_
      refine o_snd rfl rfl guard_none (look_tmp rfl) (fun _ => rfl) ?_
      refine o_assign rfl rfl guard_none (look_tmp rfl) (fun _ => rfl) ?_
      refine o_assign rfl rfl guard_none (look_tmp rfl) (fun _ => rfl) ?_
      refine o_end ?_
      refine den_seq ?_
      refine den_region rfl ?_
      refine o_move rfl rfl guard_none (look_tmp rfl) (fun _ => rfl) ?_
      refine o_move rfl rfl guard_none (look_tmp rfl) (fun _ => rfl) ?_
      refine o_move rfl rfl guard_none (look_tmp rfl) (fun _ => rfl) ?_
      refine o_move rfl rfl guard_none (look_tmp rfl) (fun _ => rfl) ?_
      refine o_call rfl rfl rfl callable32 (looks_cons (look_tmp rfl) (fun _ => rfl) (looks_nil)) (law33_few_ok _) (fun z31 => ?_)
      refine o_weak (H' := [.obj true 0 0 (mrep z26 (Rep.str) (T_wall_class_rep)) z24.2.2.of, .obj true 0 0 (mrep z27 (T_wall_sight_rep) (Rep.int .i64)) z24.2.2.seen, .obj true 0 0 (mrep z28 (T_wall_share_rep) (Rep.int .i64)) z24.2.2.has, .obj true z4 z5 (.dat (T_wall_Wall_repo z26 z27 z28)) z24.2.2] ++ ([] ++ [])) (sub_pick [0, 1, 2, 3] rfl rfl) ?_
      refine o_callU rfl rfl rfl rfl rfl callable30 (looks_cons (look_tmp rfl) (fun _ => rfl) (looks_cons (look_tmp rfl) (fun _ => rfl) (looks_cons (look_tmp rfl) (fun _ => rfl) (looks_cons (look_tmp rfl) (fun _ => rfl) (looks_nil))))) .nil (law33_run_ok _ _ _ _ _ z24.2.2 l_0 z24.1 z31) (fun _ _ => (wr_c (wr_c (wr_c (wr_c wr_n))))) (fun z33α z32 => ?_)
      obtain ⟨z34, z35, z36⟩ := z33α
      refine o_weak (H' := [.obj true 0 0 (mrep z34 (Rep.str) (T_wall_class_rep)) z32.2.2.of, .obj true 0 0 (mrep z35 (T_wall_sight_rep) (Rep.int .i64)) z32.2.2.seen, .obj true 0 0 (mrep z36 (T_wall_share_rep) (Rep.int .i64)) z32.2.2.has, .obj true z4 z5 (.dat (T_wall_Wall_repo z34 z35 z36)) z32.2.2]) (sub_pick [0, 1, 2, 3] rfl rfl) ?_
      refine o_move rfl rfl guard_none (look_tmp rfl) (fun _ => rfl) ?_
      refine o_fst rfl rfl guard_none (look_tmp rfl) (fun _ => rfl) ?_
      refine o_snd rfl rfl guard_none (look_tmp rfl) (fun _ => rfl) ?_
      refine o_assign rfl rfl guard_none (look_tmp rfl) (fun _ => rfl) ?_
      refine o_assign rfl rfl guard_none (look_tmp rfl) (fun _ => rfl) ?_
      refine o_end ?_
      refine den_seq ?_
      refine den_region rfl ?_
      refine o_move rfl rfl guard_none (look_tmp rfl) (fun _ => rfl) ?_
      refine o_move rfl rfl guard_none (look_tmp rfl) (fun _ => rfl) ?_
      refine o_move rfl rfl guard_none (look_tmp rfl) (fun _ => rfl) ?_
      refine o_move rfl rfl guard_none (look_tmp rfl) (fun _ => rfl) ?_
      refine o_call rfl rfl rfl callable32 (looks_cons (look_tmp rfl) (fun _ => rfl) (looks_nil)) (law33_few_ok _) (fun z37 => ?_)
      refine o_call rfl rfl rfl callable30 (looks_cons (look_tmp rfl) (fun _ => rfl) (looks_cons (look_tmp rfl) (fun _ => rfl) (looks_cons (look_tmp rfl) (fun _ => rfl) (looks_cons (look_tmp rfl) (fun _ => rfl) (looks_nil))))) (law33_run_n0_ok _ _ _) (fun z38 => ?_)
      refine o_move rfl rfl guard_none (look_tmp rfl) (fun _ => rfl) ?_
      refine o_fst rfl rfl guard_none (look_tmp rfl) (fun _ => rfl) ?_
      refine o_snd rfl rfl guard_none (look_tmp rfl) (fun _ => rfl) ?_
      refine o_assign rfl rfl guard_none (look_tmp rfl) (fun _ => rfl) ?_
      refine o_assign rfl rfl guard_none (look_tmp rfl) (fun _ => rfl) ?_
      refine o_end ?_
      refine den_seq ?_
      refine den_region rfl ?_
      refine o_assign rfl rfl guard_none look_nilp (fun _ => rfl) ?_
      refine o_end ?_
      refine den_seq ?_
      refine den_region rfl ?_
      refine o_weak (sub_nilmap (KR := Rep.str) (VR := T_wall_class_rep)) ?_
      refine o_weak (sub_nilmap (KR := T_wall_sight_rep) (VR := Rep.int .i64)) ?_
      refine o_weak (sub_nilmap (KR := T_wall_share_rep) (VR := Rep.int .i64)) ?_
      refine o_build (R := T_wall_Wall_repo0 (Value.map none) (Value.map none) (Value.map none)) (f := T_wall_Wall_tupo) (y := (⟨none, none, none⟩ : T_wall_Wall)) shape79 rfl rfl rfl rfl guard_none (bld_zero (z_isvm rfl) (bld_zero (z_isvm rfl) (bld_zero (z_isvm rfl) (bld_nil)))) ?_
      refine o_box rfl rfl (look_tmp rfl) rfl (fun z39 => ?_)
      refine o_assign rfl rfl guard_none (look_tmp rfl) (fun _ => rfl) ?_
      refine o_end ?_
      refine den_seq ?_
      refine den_region rfl ?_
      refine o_move rfl rfl guard_none (look_tmp rfl) (fun _ => rfl) ?_
      refine o_move rfl rfl guard_none (look_tmp rfl) (fun _ => rfl) ?_
      refine o_move rfl rfl (guard_some rfl rfl rfl) (look_tmp rfl) (fun _ => rfl) ?_
      refine o_pick rfl rfl guard_none (look_tmp rfl) (look_tmp rfl) look_bool (fun _ => rfl) (fun h1 h2 => pick_t ((fun _ => rfl) h1) h2) (fun _ _ => rfl) ?_
      refine o_move rfl rfl guard_none (look_tmp rfl) (fun _ => rfl) ?_
      refine o_move rfl rfl (guard_some rfl rfl rfl) (look_tmp rfl) (fun _ => rfl) ?_
      refine o_pick rfl rfl guard_none (look_tmp rfl) (look_tmp rfl) look_bool (fun _ => rfl) (fun h1 h2 => pick_t ((fun _ => rfl) h1) h2) (fun _ _ => rfl) ?_
      refine o_move rfl rfl guard_none (look_tmp rfl) (fun _ => rfl) ?_
      refine o_move rfl rfl (guard_some rfl rfl rfl) (look_tmp rfl) (fun _ => rfl) ?_
      refine o_pick rfl rfl guard_none (look_tmp rfl) (look_tmp rfl) look_bool (fun _ => rfl) (fun h1 h2 => pick_t ((fun _ => rfl) h1) h2) (fun _ _ => rfl) ?_
      refine o_move rfl rfl guard_none (look_tmp rfl) (fun _ => rfl) ?_
      refine o_move rfl rfl (guard_some rfl rfl rfl) (look_tmp rfl) (fun _ => rfl) ?_
      refine o_pick rfl rfl guard_none (look_tmp rfl) (look_tmp rfl) look_bool (fun _ => rfl) (fun h1 h2 => pick_t ((fun _ => rfl) h1) h2) (fun _ _ => rfl) ?_
      refine o_move rfl rfl guard_none (look_tmp rfl) (fun _ => rfl) ?_
      refine o_move rfl rfl (guard_some rfl rfl rfl) (look_tmp rfl) (fun _ => rfl) ?_
      refine o_callg rfl rfl rfl (guard_some rfl rfl rfl) callable38 (looks_cons (look_tmp rfl) (fun h => h) (looks_cons (look_str (l := []) rfl (by decide)) (fun _ => rfl) (looks_cons (look_str (l := []) rfl (by decide)) (fun _ => rfl) (looks_nil)))) (wall_Wall_May_n0_ok _ _) (fun z40 => ?_)
      refine o_not rfl rfl (guard_some rfl rfl rfl) (look_tmp rfl) (fun h => h) ?_
      refine o_pick rfl rfl guard_none (look_tmp rfl) (look_tmp rfl) look_bool (fun _ => rfl) (fun h1 h2 => pick_t ((fun _ => rfl) h1) h2) (fun _ _ => rfl) ?_
      refine o_move rfl rfl guard_none (look_tmp rfl) (fun _ => rfl) ?_
      refine o_move rfl rfl (guard_some rfl rfl rfl) (look_tmp rfl) (fun _ => rfl) ?_
      refine o_weak (H' := [] ++ ([.obj true 0 0 (mrep (Value.map none) (Rep.str) (T_wall_class_rep)) none, .obj true 0 0 (mrep (Value.map none) (T_wall_sight_rep) (Rep.int .i64)) none, .obj true 0 0 (mrep (Value.map none) (T_wall_share_rep) (Rep.int .i64)) none, .obj true z39 0 (.dat (T_wall_Wall_repo (Value.map none) (Value.map none) (Value.map none))) (⟨none, none, none⟩ : T_wall_Wall)] ++ [.obj true 0 0 (mrep z34 (Rep.str) (T_wall_class_rep)) z32.2.2.of, .obj true 0 0 (mrep z35 (T_wall_sight_rep) (Rep.int .i64)) z32.2.2.seen, .obj true 0 0 (mrep z36 (T_wall_share_rep) (Rep.int .i64)) z32.2.2.has, .obj true z4 z5 (.dat (T_wall_Wall_repo z34 z35 z36)) z32.2.2])) (sub_pick [3, 2, 1, 0, 4, 5, 6, 7] rfl rfl) ?_
      refine o_callX (its := []) (false : Bool) () rfl rfl rfl rfl (guard_some rfl rfl rfl) callable38 (looks_cons (look_tmp rfl) (fun h => h) (looks_cons (look_str (l := []) rfl (by decide)) (fun _ => rfl) (looks_cons (look_str (l := []) rfl (by decide)) (fun _ => rfl) (looks_nil)))) (.cons (.cons (.cons (.cons .nil)))) (wall_Wall_May_ok _ _ _ _ _ (⟨none, none, none⟩ : T_wall_Wall) ([] : Bytes) ([] : Bytes)) (fun _ _ => wr_n) ?_ (fun z42α z41 => ?_)
      · exact fun _ => rfl
      refine o_weak (H' := [.obj true 0 0 (mrep (Value.map none) (Rep.str) (T_wall_class_rep)) none, .obj true 0 0 (mrep (Value.map none) (T_wall_sight_rep) (Rep.int .i64)) none, .obj true 0 0 (mrep (Value.map none) (T_wall_share_rep) (Rep.int .i64)) none, .obj true z39 0 (.dat (T_wall_Wall_repo (Value.map none) (Value.map none) (Value.map none))) (⟨none, none, none⟩ : T_wall_Wall), .obj true 0 0 (mrep z34 (Rep.str) (T_wall_class_rep)) z32.2.2.of, .obj true 0 0 (mrep z35 (T_wall_sight_rep) (Rep.int .i64)) z32.2.2.seen, .obj true 0 0 (mrep z36 (T_wall_share_rep) (Rep.int .i64)) z32.2.2.has, .obj true z4 z5 (.dat (T_wall_Wall_repo z34 z35 z36)) z32.2.2]) (sub_pick [0, 1, 2, 3, 4, 5, 6, 7] rfl rfl) ?_
      refine o_not rfl rfl (guard_some rfl rfl rfl) (look_tmp rfl) (fun h => h) ?_
      refine o_pick rfl rfl guard_none (look_tmp rfl) (look_tmp rfl) look_bool (fun _ => rfl) (fun h1 h2 => pick_t ((fun _ => rfl) h1) h2) (fun _ _ => rfl) ?_
      refine o_move rfl rfl guard_none (look_tmp rfl) (fun _ => rfl) ?_
      refine o_move rfl rfl (guard_some rfl rfl rfl) (look_tmp rfl) (fun _ => rfl) ?_
      refine o_callg rfl rfl rfl (guard_some rfl rfl rfl) callable34 (looks_cons (look_tmp rfl) (fun h => h) (looks_cons (look_str (l := []) rfl (by decide)) (fun _ => rfl) (looks_cons (look_str (l := []) rfl (by decide)) (fun _ => rfl) (looks_nil)))) (wall_Wall_See_n0_ok _ _) (fun z43 => ?_)
      refine o_not rfl rfl (guard_some rfl rfl rfl) (look_tmp rfl) (fun h => h) ?_
      refine o_pick rfl rfl guard_none (look_tmp rfl) (look_tmp rfl) look_bool (fun _ => rfl) (fun h1 h2 => pick_t ((fun _ => rfl) h1) h2) (fun _ _ => rfl) ?_
      refine o_move rfl rfl guard_none (look_tmp rfl) (fun _ => rfl) ?_
      refine o_move rfl rfl (guard_some rfl rfl rfl) (look_tmp rfl) (fun _ => rfl) ?_
      refine o_weak (H' := [.obj true 0 0 (mrep (Value.map none) (Rep.str) (T_wall_class_rep)) none, .obj true 0 0 (mrep (Value.map none) (T_wall_sight_rep) (Rep.int .i64)) none, .obj true 0 0 (mrep (Value.map none) (T_wall_share_rep) (Rep.int .i64)) none, .obj true z39 0 (.dat (T_wall_Wall_repo (Value.map none) (Value.map none) (Value.map none))) (⟨none, none, none⟩ : T_wall_Wall)] ++ ([] ++ [.obj true 0 0 (mrep z34 (Rep.str) (T_wall_class_rep)) z32.2.2.of, .obj true 0 0 (mrep z35 (T_wall_sight_rep) (Rep.int .i64)) z32.2.2.seen, .obj true 0 0 (mrep z36 (T_wall_share_rep) (Rep.int .i64)) z32.2.2.has, .obj true z4 z5 (.dat (T_wall_Wall_repo z34 z35 z36)) z32.2.2])) (sub_pick [0, 1, 2, 3, 4, 5, 6, 7] rfl rfl) ?_
      refine o_callX (its := [.obj true 0 0 (mrep (Value.map none) (Rep.str) (T_wall_class_rep)) none, .obj true 0 0 (mrep (Value.map none) (T_wall_sight_rep) (Rep.int .i64)) none, .obj true 0 0 (mrep (Value.map none) (T_wall_share_rep) (Rep.int .i64)) none, .obj true z39 0 (.dat (T_wall_Wall_repo (Value.map none) (Value.map none) (Value.map none))) (⟨none, none, none⟩ : T_wall_Wall)]) ((false, (⟨none, none, none⟩ : T_wall_Wall)) : (Bool × T_wall_Wall)) ((Value.map none), (Value.map none), (Value.map none)) rfl rfl rfl rfl (guard_some rfl rfl rfl) callable34 (looks_cons (look_tmp rfl) (fun h => h) (looks_cons (look_str (l := []) rfl (by decide)) (fun _ => rfl) (looks_cons (look_str (l := []) rfl (by decide)) (fun _ => rfl) (looks_nil)))) .nil (wall_Wall_See_ok _ _ _ _ _ (⟨none, none, none⟩ : T_wall_Wall) ([] : Bytes) ([] : Bytes)) (fun _ _ => (wr_c (wr_c (wr_c (wr_c wr_n))))) ?_ (fun z45α z44 => ?_)
      · exact fun _ => rfl
      obtain ⟨z46, z47, z48⟩ := z45α
      refine o_weak (H' := [.obj true 0 0 (mrep z46 (Rep.str) (T_wall_class_rep)) z44.2.of, .obj true 0 0 (mrep z47 (T_wall_sight_rep) (Rep.int .i64)) z44.2.seen, .obj true 0 0 (mrep z48 (T_wall_share_rep) (Rep.int .i64)) z44.2.has, .obj true z39 0 (.dat (T_wall_Wall_repo z46 z47 z48)) z44.2, .obj true 0 0 (mrep z34 (Rep.str) (T_wall_class_rep)) z32.2.2.of, .obj true 0 0 (mrep z35 (T_wall_sight_rep) (Rep.int .i64)) z32.2.2.seen, .obj true 0 0 (mrep z36 (T_wall_share_rep) (Rep.int .i64)) z32.2.2.has, .obj true z4 z5 (.dat (T_wall_Wall_repo z34 z35 z36)) z32.2.2]) (sub_pick [0, 1, 2, 3, 4, 5, 6, 7] rfl rfl) ?_
      refine o_not rfl rfl (guard_some rfl rfl rfl) (look_tmp rfl) (fun h => h) ?_
      refine o_pick rfl rfl guard_none (look_tmp rfl) (look_tmp rfl) look_bool (fun _ => rfl) (fun h1 h2 => pick_t ((fun _ => rfl) h1) h2) (fun _ _ => rfl) ?_
      refine o_move rfl rfl guard_none (look_tmp rfl) (fun _ => rfl) ?_
      refine o_move rfl rfl (guard_some rfl rfl rfl) (look_tmp rfl) (fun _ => rfl) ?_
      refine o_callg rfl rfl rfl (guard_some rfl rfl rfl) callable36 (looks_cons (look_tmp rfl) (fun h => h) (looks_cons (look_str (l := []) rfl (by decide)) (fun _ => rfl) (looks_nil))) (wall_Wall_Seen_n0_ok _) (fun z49 => ?_)
      refine o_llen Try.underlying36 rfl rfl (guard_some rfl rfl rfl) (look_tmp rfl) (fun h => h) ?_
      refine o_eql rfl rfl (guard_some rfl rfl rfl) (look_tmp rfl) (look_int rfl) (fun h => h) (fun _ => rfl) ?_
      refine o_pick rfl rfl guard_none (look_tmp rfl) (look_tmp rfl) look_bool (fun _ => rfl) (fun h1 h2 => pick_t ((fun _ => rfl) h1) h2) (fun _ _ => rfl) ?_
      refine o_move rfl rfl guard_none (look_tmp rfl) (fun _ => rfl) ?_
      refine o_move rfl rfl (guard_some rfl rfl rfl) (look_tmp rfl) (fun _ => rfl) ?_
      refine o_weak (H' := [] ++ ([.obj true 0 0 (mrep z46 (Rep.str) (T_wall_class_rep)) z44.2.of, .obj true 0 0 (mrep z47 (T_wall_sight_rep) (Rep.int .i64)) z44.2.seen, .obj true 0 0 (mrep z48 (T_wall_share_rep) (Rep.int .i64)) z44.2.has, .obj true z39 0 (.dat (T_wall_Wall_repo z46 z47 z48)) z44.2] ++ [.obj true 0 0 (mrep z34 (Rep.str) (T_wall_class_rep)) z32.2.2.of, .obj true 0 0 (mrep z35 (T_wall_sight_rep) (Rep.int .i64)) z32.2.2.seen, .obj true 0 0 (mrep z36 (T_wall_share_rep) (Rep.int .i64)) z32.2.2.has, .obj true z4 z5 (.dat (T_wall_Wall_repo z34 z35 z36)) z32.2.2])) (sub_pick [0, 1, 2, 3, 4, 5, 6, 7] rfl rfl) ?_
      refine o_callX (its := []) ([] : (List Bytes)) (Value.slice none 0 0) rfl rfl rfl rfl (guard_some rfl rfl rfl) callable36 (looks_cons (look_tmp rfl) (fun h => h) (looks_cons (look_str (l := []) rfl (by decide)) (fun _ => rfl) (looks_nil))) (.cons (.cons (.cons (.cons .nil)))) (fun_frozen (wall_Wall_Seen_ok _ _ _ _ _ z44.2 ([] : Bytes))) (fun _ _ => wr_n) ?_ (fun z51α z50 => ?_)
      · exact fun _ => rfl
      refine o_weak (H' := [.obj true 0 0 (mrep z46 (Rep.str) (T_wall_class_rep)) z44.2.of, .obj true 0 0 (mrep z47 (T_wall_sight_rep) (Rep.int .i64)) z44.2.seen, .obj true 0 0 (mrep z48 (T_wall_share_rep) (Rep.int .i64)) z44.2.has, .obj true z39 0 (.dat (T_wall_Wall_repo z46 z47 z48)) z44.2, .obj true 0 0 (mrep z34 (Rep.str) (T_wall_class_rep)) z32.2.2.of, .obj true 0 0 (mrep z35 (T_wall_sight_rep) (Rep.int .i64)) z32.2.2.seen, .obj true 0 0 (mrep z36 (T_wall_share_rep) (Rep.int .i64)) z32.2.2.has, .obj true z4 z5 (.dat (T_wall_Wall_repo z34 z35 z36)) z32.2.2]) (sub_pick [0, 1, 2, 3, 4, 5, 6, 7] rfl rfl) ?_
      refine o_llen Try.underlying36 rfl rfl (guard_some rfl rfl rfl) (look_tmp rfl) (fun h => h) ?_
      refine o_eql rfl rfl (guard_some rfl rfl rfl) (look_tmp rfl) (look_int rfl) (fun h => h) (fun _ => rfl) ?_
      refine o_pick rfl rfl guard_none (look_tmp rfl) (look_tmp rfl) look_bool (fun _ => rfl) (fun h1 h2 => pick_t ((fun _ => rfl) h1) h2) (fun _ _ => rfl) ?_
      refine o_move rfl rfl guard_none (look_tmp rfl) (fun _ => rfl) ?_
      refine o_move rfl rfl (guard_some rfl rfl rfl) (look_tmp rfl) (fun _ => rfl) ?_
      refine o_callg rfl rfl rfl (guard_some rfl rfl rfl) callable33 (looks_cons (look_tmp rfl) (fun h => h) (looks_cons (look_str (l := []) rfl (by decide)) (fun _ => rfl) (looks_nil))) (wall_Wall_Forget_n0_ok _) (fun z52 => ?_)
      refine o_eql rfl rfl (guard_some rfl rfl rfl) (look_tmp rfl) (look_int rfl) (fun h => h) (fun _ => rfl) ?_
      refine o_pick rfl rfl guard_none (look_tmp rfl) (look_tmp rfl) look_bool (fun _ => rfl) (fun h1 h2 => pick_t ((fun _ => rfl) h1) h2) (fun _ _ => rfl) ?_
      refine o_move rfl rfl guard_none (look_tmp rfl) (fun _ => rfl) ?_
      refine o_move rfl rfl (guard_some rfl rfl rfl) (look_tmp rfl) (fun _ => rfl) ?_
      refine o_weak (H' := [.obj true 0 0 (mrep z46 (Rep.str) (T_wall_class_rep)) z44.2.of, .obj true 0 0 (mrep z47 (T_wall_sight_rep) (Rep.int .i64)) z44.2.seen, .obj true 0 0 (mrep z48 (T_wall_share_rep) (Rep.int .i64)) z44.2.has, .obj true z39 0 (.dat (T_wall_Wall_repo z46 z47 z48)) z44.2] ++ ([] ++ [.obj true 0 0 (mrep z34 (Rep.str) (T_wall_class_rep)) z32.2.2.of, .obj true 0 0 (mrep z35 (T_wall_sight_rep) (Rep.int .i64)) z32.2.2.seen, .obj true 0 0 (mrep z36 (T_wall_share_rep) (Rep.int .i64)) z32.2.2.has, .obj true z4 z5 (.dat (T_wall_Wall_repo z34 z35 z36)) z32.2.2])) (sub_pick [0, 1, 2, 3, 4, 5, 6, 7] rfl rfl) ?_
      refine o_callX (its := [.obj true 0 0 (mrep z46 (Rep.str) (T_wall_class_rep)) z44.2.of, .obj true 0 0 (mrep z47 (T_wall_sight_rep) (Rep.int .i64)) z44.2.seen, .obj true 0 0 (mrep z48 (T_wall_share_rep) (Rep.int .i64)) z44.2.has, .obj true z39 0 (.dat (T_wall_Wall_repo z46 z47 z48)) z44.2]) ((0, z44.2) : (Int × T_wall_Wall)) (z46, z47, z48) rfl rfl rfl rfl (guard_some rfl rfl rfl) callable33 (looks_cons (look_tmp rfl) (fun h => h) (looks_cons (look_str (l := []) rfl (by decide)) (fun _ => rfl) (looks_nil))) .nil (wall_Wall_Forget_ok _ _ _ _ _ z44.2 ([] : Bytes)) (fun _ _ => (wr_c (wr_c (wr_c (wr_c wr_n))))) ?_ (fun z54α z53 => ?_)
      · exact fun _ => rfl
      obtain ⟨z55, z56, z57⟩ := z54α
      refine o_weak (H' := [.obj true 0 0 (mrep z55 (Rep.str) (T_wall_class_rep)) z53.2.of, .obj true 0 0 (mrep z56 (T_wall_sight_rep) (Rep.int .i64)) z53.2.seen, .obj true 0 0 (mrep z57 (T_wall_share_rep) (Rep.int .i64)) z53.2.has, .obj true z39 0 (.dat (T_wall_Wall_repo z55 z56 z57)) z53.2, .obj true 0 0 (mrep z34 (Rep.str) (T_wall_class_rep)) z32.2.2.of, .obj true 0 0 (mrep z35 (T_wall_sight_rep) (Rep.int .i64)) z32.2.2.seen, .obj true 0 0 (mrep z36 (T_wall_share_rep) (Rep.int .i64)) z32.2.2.has, .obj true z4 z5 (.dat (T_wall_Wall_repo z34 z35 z36)) z32.2.2]) (sub_pick [0, 1, 2, 3, 4, 5, 6, 7] rfl rfl) ?_
      refine o_eql rfl rfl (guard_some rfl rfl rfl) (look_tmp rfl) (look_int rfl) (fun h => h) (fun _ => rfl) ?_
      refine o_pick rfl rfl guard_none (look_tmp rfl) (look_tmp rfl) look_bool (fun _ => rfl) (fun h1 h2 => pick_t ((fun _ => rfl) h1) h2) (fun _ _ => rfl) ?_
      refine o_move rfl rfl guard_none (look_tmp rfl) (fun _ => rfl) ?_
      refine o_move rfl rfl (guard_some rfl rfl rfl) (look_tmp rfl) (fun _ => rfl) ?_
      refine o_callg rfl rfl rfl (guard_some rfl rfl rfl) callable37 (looks_cons (look_tmp rfl) (fun h => h) (looks_cons (look_str (l := []) rfl (by decide)) (fun _ => rfl) (looks_cons (look_str (l := []) rfl (by decide)) (fun _ => rfl) (looks_nil)))) (wall_Wall_Leak_n0_ok _ _) (fun z58 => ?_)
      refine o_not rfl rfl (guard_some rfl rfl rfl) (look_tmp rfl) (fun h => h) ?_
      refine o_pick rfl rfl guard_none (look_tmp rfl) (look_tmp rfl) look_bool (fun _ => rfl) (fun h1 h2 => pick_t ((fun _ => rfl) h1) h2) (fun _ _ => rfl) ?_
      refine o_move rfl rfl guard_none (look_tmp rfl) (fun _ => rfl) ?_
      refine o_move rfl rfl (guard_some rfl rfl rfl) (look_tmp rfl) (fun _ => rfl) ?_
      refine o_weak (H' := [] ++ ([.obj true 0 0 (mrep z55 (Rep.str) (T_wall_class_rep)) z53.2.of, .obj true 0 0 (mrep z56 (T_wall_sight_rep) (Rep.int .i64)) z53.2.seen, .obj true 0 0 (mrep z57 (T_wall_share_rep) (Rep.int .i64)) z53.2.has, .obj true z39 0 (.dat (T_wall_Wall_repo z55 z56 z57)) z53.2] ++ [.obj true 0 0 (mrep z34 (Rep.str) (T_wall_class_rep)) z32.2.2.of, .obj true 0 0 (mrep z35 (T_wall_sight_rep) (Rep.int .i64)) z32.2.2.seen, .obj true 0 0 (mrep z36 (T_wall_share_rep) (Rep.int .i64)) z32.2.2.has, .obj true z4 z5 (.dat (T_wall_Wall_repo z34 z35 z36)) z32.2.2])) (sub_pick [0, 1, 2, 3, 4, 5, 6, 7] rfl rfl) ?_
      refine o_callX (its := []) (false : Bool) () rfl rfl rfl rfl (guard_some rfl rfl rfl) callable37 (looks_cons (look_tmp rfl) (fun h => h) (looks_cons (look_str (l := []) rfl (by decide)) (fun _ => rfl) (looks_cons (look_str (l := []) rfl (by decide)) (fun _ => rfl) (looks_nil)))) (.cons (.cons (.cons (.cons .nil)))) (wall_Wall_Leak_ok _ _ _ _ _ z53.2 ([] : Bytes) ([] : Bytes)) (fun _ _ => wr_n) ?_ (fun z60α z59 => ?_)
      · exact fun _ => rfl
      refine o_weak (H' := [.obj true 0 0 (mrep z55 (Rep.str) (T_wall_class_rep)) z53.2.of, .obj true 0 0 (mrep z56 (T_wall_sight_rep) (Rep.int .i64)) z53.2.seen, .obj true 0 0 (mrep z57 (T_wall_share_rep) (Rep.int .i64)) z53.2.has, .obj true z39 0 (.dat (T_wall_Wall_repo z55 z56 z57)) z53.2, .obj true 0 0 (mrep z34 (Rep.str) (T_wall_class_rep)) z32.2.2.of, .obj true 0 0 (mrep z35 (T_wall_sight_rep) (Rep.int .i64)) z32.2.2.seen, .obj true 0 0 (mrep z36 (T_wall_share_rep) (Rep.int .i64)) z32.2.2.has, .obj true z4 z5 (.dat (T_wall_Wall_repo z34 z35 z36)) z32.2.2]) (sub_pick [0, 1, 2, 3, 4, 5, 6, 7] rfl rfl) ?_
      refine o_not rfl rfl (guard_some rfl rfl rfl) (look_tmp rfl) (fun h => h) ?_
      refine o_pick rfl rfl guard_none (look_tmp rfl) (look_tmp rfl) look_bool (fun _ => rfl) (fun h1 h2 => pick_t ((fun _ => rfl) h1) h2) (fun _ _ => rfl) ?_
      refine o_move rfl rfl guard_none (look_tmp rfl) (fun _ => rfl) ?_
      refine o_move rfl rfl (guard_some rfl rfl rfl) (look_tmp rfl) (fun _ => rfl) ?_
      refine o_callg rfl rfl rfl (guard_some rfl rfl rfl) callable40 (looks_cons (look_tmp rfl) (fun h => h) (looks_nil)) (wall_Wall_Clone_n0_ok) (fun z61 => ?_)
      refine o_neql Try.underlying63 rfl rfl (guard_some rfl rfl rfl) (look_tmp rfl) (fun h => h) ?_
      refine o_pick rfl rfl guard_none (look_tmp rfl) (look_tmp rfl) look_bool (fun _ => rfl) (fun h1 h2 => pick_t ((fun _ => rfl) h1) h2) (fun _ _ => rfl) ?_
      refine o_move rfl rfl guard_none (look_tmp rfl) (fun _ => rfl) ?_
      refine o_move rfl rfl (guard_some rfl rfl rfl) (look_tmp rfl) (fun _ => rfl) ?_
      refine o_weak (H' := [] ++ ([.obj true 0 0 (mrep z55 (Rep.str) (T_wall_class_rep)) z53.2.of, .obj true 0 0 (mrep z56 (T_wall_sight_rep) (Rep.int .i64)) z53.2.seen, .obj true 0 0 (mrep z57 (T_wall_share_rep) (Rep.int .i64)) z53.2.has, .obj true z39 0 (.dat (T_wall_Wall_repo z55 z56 z57)) z53.2] ++ [.obj true 0 0 (mrep z34 (Rep.str) (T_wall_class_rep)) z32.2.2.of, .obj true 0 0 (mrep z35 (T_wall_sight_rep) (Rep.int .i64)) z32.2.2.seen, .obj true 0 0 (mrep z36 (T_wall_share_rep) (Rep.int .i64)) z32.2.2.has, .obj true z4 z5 (.dat (T_wall_Wall_repo z34 z35 z36)) z32.2.2])) (sub_pick [0, 1, 2, 3, 4, 5, 6, 7] rfl rfl) ?_
      refine o_callX (its := []) (none : (Option T_wall_Wall)) ((0, 0), (Value.slice none 0 0), (Value.slice none 0 0), (Value.slice none 0 0)) rfl rfl rfl rfl (guard_some rfl rfl rfl) callable40 (looks_cons (look_tmp rfl) (fun h => h) (looks_nil)) (.cons (.cons (.cons (.cons .nil)))) (wall_Wall_Clone_ok _ _ _ _ _ z53.2) (fun _ _ => (wr_ol (fun _ => (wr_c (wr_c (wr_c (wr_c wr_n))))) wr_n)) ?_ (fun z63α z62 => ?_)
      · exact fun _ => rfl
      obtain ⟨⟨z64, z65⟩, z66, z67, z68⟩ := z63α
      rcases z62 with _ | z69
      · refine o_weak (H' := [.obj true 0 0 (mrep z55 (Rep.str) (T_wall_class_rep)) z53.2.of, .obj true 0 0 (mrep z56 (T_wall_sight_rep) (Rep.int .i64)) z53.2.seen, .obj true 0 0 (mrep z57 (T_wall_share_rep) (Rep.int .i64)) z53.2.has, .obj true z39 0 (.dat (T_wall_Wall_repo z55 z56 z57)) z53.2, .obj true 0 0 (mrep z34 (Rep.str) (T_wall_class_rep)) z32.2.2.of, .obj true 0 0 (mrep z35 (T_wall_sight_rep) (Rep.int .i64)) z32.2.2.seen, .obj true 0 0 (mrep z36 (T_wall_share_rep) (Rep.int .i64)) z32.2.2.has, .obj true z4 z5 (.dat (T_wall_Wall_repo z34 z35 z36)) z32.2.2]) (sub_pick [0, 1, 2, 3, 4, 5, 6, 7] rfl rfl) ?_
        refine o_asnil ?_
        refine o_optn ?_
        refine o_neql Try.underlying63 rfl rfl (guard_some rfl rfl rfl) (look_tmp rfl) (fun h => h) ?_
        refine o_pick rfl rfl guard_none (look_tmp rfl) (look_tmp rfl) look_bool (fun _ => rfl) (fun h1 h2 => pick_t ((fun _ => rfl) h1) h2) (fun _ _ => rfl) ?_
        refine o_assign rfl rfl guard_none (look_tmp rfl) (fun _ => rfl) ?_
        refine o_lt (fun z70 => ?_)
        refine o_end ?_
        refine den_code_ret ?_
        exact dene_res (res1 rfl (rv_tmp rfl))
      · refine o_weak (H' := [.obj true 0 0 (mrep z66 (Rep.str) (T_wall_class_rep)) z69.of, .obj true 0 0 (mrep z67 (T_wall_sight_rep) (Rep.int .i64)) z69.seen, .obj true 0 0 (mrep z68 (T_wall_share_rep) (Rep.int .i64)) z69.has, .obj true z64 z65 (.dat (T_wall_Wall_repo z66 z67 z68)) z69, .obj true 0 0 (mrep z55 (Rep.str) (T_wall_class_rep)) z53.2.of, .obj true 0 0 (mrep z56 (T_wall_sight_rep) (Rep.int .i64)) z53.2.seen, .obj true 0 0 (mrep z57 (T_wall_share_rep) (Rep.int .i64)) z53.2.has, .obj true z39 0 (.dat (T_wall_Wall_repo z55 z56 z57)) z53.2, .obj true 0 0 (mrep z34 (Rep.str) (T_wall_class_rep)) z32.2.2.of, .obj true 0 0 (mrep z35 (T_wall_sight_rep) (Rep.int .i64)) z32.2.2.seen, .obj true 0 0 (mrep z36 (T_wall_share_rep) (Rep.int .i64)) z32.2.2.has, .obj true z4 z5 (.dat (T_wall_Wall_repo z34 z35 z36)) z32.2.2]) (sub_pick [0, 1, 2, 3, 4, 5, 6, 7, 8, 9, 10, 11] rfl rfl) ?_
        refine o_asptr ?_
        refine o_opts ?_
        refine o_peql Try.underlying63 rfl rfl (guard_some rfl rfl rfl) (look_tmp rfl) (fun h => h) ?_
        refine o_pick rfl rfl guard_none (look_tmp rfl) (look_tmp rfl) look_bool (fun _ => rfl) (fun h1 h2 => pick_t ((fun _ => rfl) h1) h2) (fun _ _ => rfl) ?_
        refine o_assign rfl rfl guard_none (look_tmp rfl) (fun _ => rfl) ?_
        refine o_lt (fun z71 => ?_)
        refine o_end ?_
        refine den_code_ret ?_
        exact dene_res (res1 rfl (rv_tmp rfl))
    · refine o_weak (H' := [.obj true 0 0 (mrep z19 (Rep.str) (T_wall_class_rep)) z22.of, .obj true 0 0 (mrep z20 (T_wall_sight_rep) (Rep.int .i64)) z22.seen, .obj true 0 0 (mrep z21 (T_wall_share_rep) (Rep.int .i64)) z22.has, .obj true z17 z18 (.dat (T_wall_Wall_repo z19 z20 z21)) z22, .obj true 0 0 (mrep z12 (Rep.str) (T_wall_class_rep)) z10.2.2.of, .obj true 0 0 (mrep z13 (T_wall_sight_rep) (Rep.int .i64)) z10.2.2.seen, .obj true 0 0 (mrep z14 (T_wall_share_rep) (Rep.int .i64)) z10.2.2.has, .obj true z4 z5 (.dat (T_wall_Wall_repo z12 z13 z14)) z10.2.2]) (sub_pick [0, 1, 2, 3, 4, 5, 6, 7] rfl rfl) ?_
      refine o_asptr ?_
      refine o_opts ?_
      refine o_assign rfl rfl guard_none (look_tmp rfl) (fun _ => rfl) ?_
      refine o_end ?_
      refine den_seq ?_
      refine den_region rfl ?_
      refine o_move rfl rfl guard_none (look_tmp rfl) (fun _ => rfl) ?_
      refine o_move rfl rfl guard_none (look_tmp rfl) (fun _ => rfl) ?_
      refine o_move rfl rfl guard_none (look_tmp rfl) (fun _ => rfl) ?_
      refine o_move rfl rfl guard_none (look_tmp rfl) (fun _ => rfl) ?_
      refine o_call rfl rfl rfl callable32 (looks_cons (look_tmp rfl) (fun _ => rfl) (looks_nil)) (law33_few_ok _) (fun z72 => ?_)
      refine o_weak (H' := [.obj true 0 0 (mrep z12 (Rep.str) (T_wall_class_rep)) z10.2.2.of, .obj true 0 0 (mrep z13 (T_wall_sight_rep) (Rep.int .i64)) z10.2.2.seen, .obj true 0 0 (mrep z14 (T_wall_share_rep) (Rep.int .i64)) z10.2.2.has, .obj true z4 z5 (.dat (T_wall_Wall_repo z12 z13 z14)) z10.2.2] ++ ([] ++ [.obj true 0 0 (mrep z19 (Rep.str) (T_wall_class_rep)) z22.of, .obj true 0 0 (mrep z20 (T_wall_sight_rep) (Rep.int .i64)) z22.seen, .obj true 0 0 (mrep z21 (T_wall_share_rep) (Rep.int .i64)) z22.has, .obj true z17 z18 (.dat (T_wall_Wall_repo z19 z20 z21)) z22])) (sub_pick [4, 5, 6, 7, 0, 1, 2, 3] rfl rfl) ?_
      refine o_callU rfl rfl rfl rfl rfl callable30 (looks_cons (look_tmp rfl) (fun _ => rfl) (looks_cons (look_tmp rfl) (fun _ => rfl) (looks_cons (look_tmp rfl) (fun _ => rfl) (looks_cons (look_tmp rfl) (fun _ => rfl) (looks_nil))))) .nil (law33_run_ok _ _ _ _ _ z10.2.2 l_0 z10.1 z72) (fun _ _ => (wr_c (wr_c (wr_c (wr_c wr_n))))) (fun z74α z73 => ?_)
      obtain ⟨z75, z76, z77⟩ := z74α
      refine o_weak (H' := [.obj true 0 0 (mrep z75 (Rep.str) (T_wall_class_rep)) z73.2.2.of, .obj true 0 0 (mrep z76 (T_wall_sight_rep) (Rep.int .i64)) z73.2.2.seen, .obj true 0 0 (mrep z77 (T_wall_share_rep) (Rep.int .i64)) z73.2.2.has, .obj true z4 z5 (.dat (T_wall_Wall_repo z75 z76 z77)) z73.2.2, .obj true 0 0 (mrep z19 (Rep.str) (T_wall_class_rep)) z22.of, .obj true 0 0 (mrep z20 (T_wall_sight_rep) (Rep.int .i64)) z22.seen, .obj true 0 0 (mrep z21 (T_wall_share_rep) (Rep.int .i64)) z22.has, .obj true z17 z18 (.dat (T_wall_Wall_repo z19 z20 z21)) z22]) (sub_pick [0, 1, 2, 3, 4, 5, 6, 7] rfl rfl) ?_
      refine o_move rfl rfl guard_none (look_tmp rfl) (fun _ => rfl) ?_
      refine o_fst rfl rfl guard_none (look_tmp rfl) (fun _ => rfl) ?_
      refine o_snd rfl rfl guard_none (look_tmp rfl) (fun _ => rfl) ?_
      refine o_assign rfl rfl guard_none (look_tmp rfl) (fun _ => rfl) ?_
      refine o_assign rfl rfl guard_none (look_tmp rfl) (fun _ => rfl) ?_
      refine o_end ?_
      refine den_seq ?_
      refine den_region rfl ?_
      refine o_move rfl rfl guard_none (look_tmp rfl) (fun _ => rfl) ?_
      refine o_move rfl rfl guard_none (look_tmp rfl) (fun _ => rfl) ?_
      refine o_move rfl rfl guard_none (look_tmp rfl) (fun _ => rfl) ?_
      refine o_move rfl rfl guard_none (look_tmp rfl) (fun _ => rfl) ?_
      refine o_call rfl rfl rfl callable32 (looks_cons (look_tmp rfl) (fun _ => rfl) (looks_nil)) (law33_few_ok _) (fun z78 => ?_)
      refine o_weak (H' := [.obj true 0 0 (mrep z19 (Rep.str) (T_wall_class_rep)) z22.of, .obj true 0 0 (mrep z20 (T_wall_sight_rep) (Rep.int .i64)) z22.seen, .obj true 0 0 (mrep z21 (T_wall_share_rep) (Rep.int .i64)) z22.has, .obj true z17 z18 (.dat (T_wall_Wall_repo z19 z20 z21)) z22] ++ ([] ++ [.obj true 0 0 (mrep z75 (Rep.str) (T_wall_class_rep)) z73.2.2.of, .obj true 0 0 (mrep z76 (T_wall_sight_rep) (Rep.int .i64)) z73.2.2.seen, .obj true 0 0 (mrep z77 (T_wall_share_rep) (Rep.int .i64)) z73.2.2.has, .obj true z4 z5 (.dat (T_wall_Wall_repo z75 z76 z77)) z73.2.2])) (sub_pick [4, 5, 6, 7, 0, 1, 2, 3] rfl rfl) ?_
      refine o_callU rfl rfl rfl rfl rfl callable30 (looks_cons (look_tmp rfl) (fun _ => rfl) (looks_cons (look_tmp rfl) (fun _ => rfl) (looks_cons (look_tmp rfl) (fun _ => rfl) (looks_cons (look_tmp rfl) (fun _ => rfl) (looks_nil))))) .nil (law33_run_ok _ _ _ _ _ z22 l_0 z10.1 z78) (fun _ _ => (wr_c (wr_c (wr_c (wr_c wr_n))))) (fun z80α z79 => ?_)
      obtain ⟨z81, z82, z83⟩ := z80α
      refine o_weak (H' := [.obj true 0 0 (mrep z81 (Rep.str) (T_wall_class_rep)) z79.2.2.of, .obj true 0 0 (mrep z82 (T_wall_sight_rep) (Rep.int .i64)) z79.2.2.seen, .obj true 0 0 (mrep z83 (T_wall_share_rep) (Rep.int .i64)) z79.2.2.has, .obj true z17 z18 (.dat (T_wall_Wall_repo z81 z82 z83)) z79.2.2, .obj true 0 0 (mrep z75 (Rep.str) (T_wall_class_rep)) z73.2.2.of, .obj true 0 0 (mrep z76 (T_wall_sight_rep) (Rep.int .i64)) z73.2.2.seen, .obj true 0 0 (mrep z77 (T_wall_share_rep) (Rep.int .i64)) z73.2.2.has, .obj true z4 z5 (.dat (T_wall_Wall_repo z75 z76 z77)) z73.2.2]) (sub_pick [0, 1, 2, 3, 4, 5, 6, 7] rfl rfl) ?_
      refine o_move rfl rfl guard_none (look_tmp rfl) (fun _ => rfl) ?_
      refine o_fst rfl rfl guard_none (look_tmp rfl) (fun _ => rfl) ?_
      refine o_snd rfl rfl guard_none (look_tmp rfl) (fun _ => rfl) ?_
      refine o_assign rfl rfl guard_none (look_tmp rfl) (fun _ => rfl) ?_
      refine o_assign rfl rfl guard_none (look_tmp rfl) (fun _ => rfl) ?_
      refine o_end ?_
      refine den_seq ?_
      refine den_region rfl ?_
      refine o_move rfl rfl guard_none (look_tmp rfl) (fun _ => rfl) ?_
      refine o_move rfl rfl guard_none (look_tmp rfl) (fun _ => rfl) ?_
      refine o_move rfl rfl guard_none (look_tmp rfl) (fun _ => rfl) ?_
      refine o_move rfl rfl guard_none (look_tmp rfl) (fun _ => rfl) ?_
      refine o_call rfl rfl rfl callable32 (looks_cons (look_tmp rfl) (fun _ => rfl) (looks_nil)) (law33_few_ok _) (fun z84 => ?_)
      refine o_weak (H' := [.obj true 0 0 (mrep z75 (Rep.str) (T_wall_class_rep)) z73.2.2.of, .obj true 0 0 (mrep z76 (T_wall_sight_rep) (Rep.int .i64)) z73.2.2.seen, .obj true 0 0 (mrep z77 (T_wall_share_rep) (Rep.int .i64)) z73.2.2.has, .obj true z4 z5 (.dat (T_wall_Wall_repo z75 z76 z77)) z73.2.2] ++ ([] ++ [.obj true 0 0 (mrep z81 (Rep.str) (T_wall_class_rep)) z79.2.2.of, .obj true 0 0 (mrep z82 (T_wall_sight_rep) (Rep.int .i64)) z79.2.2.seen, .obj true 0 0 (mrep z83 (T_wall_share_rep) (Rep.int .i64)) z79.2.2.has, .obj true z17 z18 (.dat (T_wall_Wall_repo z81 z82 z83)) z79.2.2])) (sub_pick [4, 5, 6, 7, 0, 1, 2, 3] rfl rfl) ?_
      refine o_callU rfl rfl rfl rfl rfl callable30 (looks_cons (look_tmp rfl) (fun _ => rfl) (looks_cons (look_tmp rfl) (fun _ => rfl) (looks_cons (look_tmp rfl) (fun _ => rfl) (looks_cons (look_tmp rfl) (fun _ => rfl) (looks_nil))))) .nil (law33_run_ok _ _ _ _ _ z73.2.2 l_0 z73.1 z84) (fun _ _ => (wr_c (wr_c (wr_c (wr_c wr_n))))) (fun z86α z85 => ?_)
      obtain ⟨z87, z88, z89⟩ := z86α
      refine o_weak (H' := [.obj true 0 0 (mrep z87 (Rep.str) (T_wall_class_rep)) z85.2.2.of, .obj true 0 0 (mrep z88 (T_wall_sight_rep) (Rep.int .i64)) z85.2.2.seen, .obj true 0 0 (mrep z89 (T_wall_share_rep) (Rep.int .i64)) z85.2.2.has, .obj true z4 z5 (.dat (T_wall_Wall_repo z87 z88 z89)) z85.2.2, .obj true 0 0 (mrep z81 (Rep.str) (T_wall_class_rep)) z79.2.2.of, .obj true 0 0 (mrep z82 (T_wall_sight_rep) (Rep.int .i64)) z79.2.2.seen, .obj true 0 0 (mrep z83 (T_wall_share_rep) (Rep.int .i64)) z79.2.2.has, .obj true z17 z18 (.dat (T_wall_Wall_repo z81 z82 z83)) z79.2.2]) (sub_pick [0, 1, 2, 3, 4, 5, 6, 7] rfl rfl) ?_
      refine o_move rfl rfl guard_none (look_tmp rfl) (fun _ => rfl) ?_
      refine o_fst rfl rfl guard_none (look_tmp rfl) (fun _ => rfl) ?_
      refine o_snd rfl rfl guard_none (look_tmp rfl) (fun _ => rfl) ?_
      refine o_assign rfl rfl guard_none (look_tmp rfl) (fun _ => rfl) ?_
      refine o_assign rfl rfl guard_none (look_tmp rfl) (fun _ => rfl) ?_
      refine o_end ?_
      refine den_seq ?_
      refine den_region rfl ?_
      refine o_move rfl rfl guard_none (look_tmp rfl) (fun _ => rfl) ?_
      refine o_move rfl rfl guard_none (look_tmp rfl) (fun _ => rfl) ?_
      refine o_move rfl rfl guard_none (look_tmp rfl) (fun _ => rfl) ?_
      refine o_move rfl rfl guard_none (look_tmp rfl) (fun _ => rfl) ?_
      refine o_call rfl rfl rfl callable32 (looks_cons (look_tmp rfl) (fun _ => rfl) (looks_nil)) (law33_few_ok _) (fun z90 => ?_)
      refine o_weak (H' := [.obj true 0 0 (mrep z81 (Rep.str) (T_wall_class_rep)) z79.2.2.of, .obj true 0 0 (mrep z82 (T_wall_sight_rep) (Rep.int .i64)) z79.2.2.seen, .obj true 0 0 (mrep z83 (T_wall_share_rep) (Rep.int .i64)) z79.2.2.has, .obj true z17 z18 (.dat (T_wall_Wall_repo z81 z82 z83)) z79.2.2] ++ ([] ++ [.obj true 0 0 (mrep z87 (Rep.str) (T_wall_class_rep)) z85.2.2.of, .obj true 0 0 (mrep z88 (T_wall_sight_rep) (Rep.int .i64)) z85.2.2.seen, .obj true 0 0 (mrep z89 (T_wall_share_rep) (Rep.int .i64)) z85.2.2.has, .obj true z4 z5 (.dat (T_wall_Wall_repo z87 z88 z89)) z85.2.2])) (sub_pick [4, 5, 6, 7, 0, 1, 2, 3] rfl rfl) ?_
      refine o_callU rfl rfl rfl rfl rfl callable30 (looks_cons (look_tmp rfl) (fun _ => rfl) (looks_cons (look_tmp rfl) (fun _ => rfl) (looks_cons (look_tmp rfl) (fun _ => rfl) (looks_cons (look_tmp rfl) (fun _ => rfl) (looks_nil))))) .nil (law33_run_ok _ _ _ _ _ z79.2.2 l_0 z79.1 z90) (fun _ _ => (wr_c (wr_c (wr_c (wr_c wr_n))))) (fun z92α z91 => ?_)
      obtain ⟨z93, z94, z95⟩ := z92α
      refine o_weak (H' := [.obj true 0 0 (mrep z93 (Rep.str) (T_wall_class_rep)) z91.2.2.of, .obj true 0 0 (mrep z94 (T_wall_sight_rep) (Rep.int .i64)) z91.2.2.seen, .obj true 0 0 (mrep z95 (T_wall_share_rep) (Rep.int .i64)) z91.2.2.has, .obj true z17 z18 (.dat (T_wall_Wall_repo z93 z94 z95)) z91.2.2, .obj true 0 0 (mrep z87 (Rep.str) (T_wall_class_rep)) z85.2.2.of, .obj true 0 0 (mrep z88 (T_wall_sight_rep) (Rep.int .i64)) z85.2.2.seen, .obj true 0 0 (mrep z89 (T_wall_share_rep) (Rep.int .i64)) z85.2.2.has, .obj true z4 z5 (.dat (T_wall_Wall_repo z87 z88 z89)) z85.2.2]) (sub_pick [0, 1, 2, 3, 4, 5, 6, 7] rfl rfl) ?_
      refine o_move rfl rfl guard_none (look_tmp rfl) (fun _ => rfl) ?_
      refine o_fst rfl rfl guard_none (look_tmp rfl) (fun _ => rfl) ?_
      refine o_snd rfl rfl guard_none (look_tmp rfl) (fun _ => rfl) ?_
      refine o_assign rfl rfl guard_none (look_tmp rfl) (fun _ => rfl) ?_
      refine o_assign rfl rfl guard_none (look_tmp rfl) (fun _ => rfl) ?_
      refine o_end ?_
      refine den_seq ?_
      refine den_region rfl ?_
      refine o_assign rfl rfl guard_none look_nilp (fun _ => rfl) ?_
      refine o_end ?_
      refine den_seq ?_
      refine den_region rfl ?_
      refine o_weak (sub_nilmap (KR := Rep.str) (VR := T_wall_class_rep)) ?_
      refine o_weak (sub_nilmap (KR := T_wall_sight_rep) (VR := Rep.int .i64)) ?_
      refine o_weak (sub_nilmap (KR := T_wall_share_rep) (VR := Rep.int .i64)) ?_
      refine o_build (R := T_wall_Wall_repo0 (Value.map none) (Value.map none) (Value.map none)) (f := T_wall_Wall_tupo) (y := (⟨none, none, none⟩ : T_wall_Wall)) shape79 rfl rfl rfl rfl guard_none (bld_zero (z_isvm rfl) (bld_zero (z_isvm rfl) (bld_zero (z_isvm rfl) (bld_nil)))) ?_
      refine o_box rfl rfl (look_tmp rfl) rfl (fun z96 => ?_)
      refine o_assign rfl rfl guard_none (look_tmp rfl) (fun _ => rfl) ?_
      refine o_end ?_
      refine den_seq ?_
      refine den_region rfl ?_
      refine o_move rfl rfl guard_none (look_tmp rfl) (fun _ => rfl) ?_
      refine o_move rfl rfl guard_none (look_tmp rfl) (fun _ => rfl) ?_
      refine o_move rfl rfl (guard_some rfl rfl rfl) (look_tmp rfl) (fun _ => rfl) ?_
      refine o_pick rfl rfl guard_none (look_tmp rfl) (look_tmp rfl) look_bool (fun _ => rfl) (fun h1 h2 => pick_t ((fun _ => rfl) h1) h2) (fun _ _ => rfl) ?_
      refine o_move rfl rfl guard_none (look_tmp rfl) (fun _ => rfl) ?_
      refine o_move rfl rfl (guard_some rfl rfl rfl) (look_tmp rfl) (fun _ => rfl) ?_
      refine o_pick rfl rfl guard_none (look_tmp rfl) (look_tmp rfl) look_bool (fun _ => rfl) (fun h1 h2 => pick_t ((fun _ => rfl) h1) h2) (fun _ _ => rfl) ?_
      refine o_move rfl rfl guard_none (look_tmp rfl) (fun _ => rfl) ?_
      refine o_move rfl rfl (guard_some rfl rfl rfl) (look_tmp rfl) (fun _ => rfl) ?_
      refine o_pick rfl rfl guard_none (look_tmp rfl) (look_tmp rfl) look_bool (fun _ => rfl) (fun h1 h2 => pick_t ((fun _ => rfl) h1) h2) (fun _ _ => rfl) ?_
      refine o_move rfl rfl guard_none (look_tmp rfl) (fun _ => rfl) ?_
      refine o_move rfl rfl (guard_some rfl rfl rfl) (look_tmp rfl) (fun _ => rfl) ?_
      refine o_pick rfl rfl guard_none (look_tmp rfl) (look_tmp rfl) look_bool (fun _ => rfl) (fun h1 h2 => pick_t ((fun _ => rfl) h1) h2) (fun _ _ => rfl) ?_
      refine o_move rfl rfl guard_none (look_tmp rfl) (fun _ => rfl) ?_
      refine o_move rfl rfl (guard_some rfl rfl rfl) (look_tmp rfl) (fun _ => rfl) ?_
      refine o_callg rfl rfl rfl (guard_some rfl rfl rfl) callable38 (looks_cons (look_tmp rfl) (fun h => h) (looks_cons (look_str (l := []) rfl (by decide)) (fun _ => rfl) (looks_cons (look_str (l := []) rfl (by decide)) (fun _ => rfl) (looks_nil)))) (wall_Wall_May_n0_ok _ _) (fun z97 => ?_)
      refine o_not rfl rfl (guard_some rfl rfl rfl) (look_tmp rfl) (fun h => h) ?_
      refine o_pick rfl rfl guard_none (look_tmp rfl) (look_tmp rfl) look_bool (fun _ => rfl) (fun h1 h2 => pick_t ((fun _ => rfl) h1) h2) (fun _ _ => rfl) ?_
      refine o_move rfl rfl guard_none (look_tmp rfl) (fun _ => rfl) ?_
      refine o_move rfl rfl (guard_some rfl rfl rfl) (look_tmp rfl) (fun _ => rfl) ?_
      refine o_weak (H' := [] ++ ([.obj true 0 0 (mrep (Value.map none) (Rep.str) (T_wall_class_rep)) none, .obj true 0 0 (mrep (Value.map none) (T_wall_sight_rep) (Rep.int .i64)) none, .obj true 0 0 (mrep (Value.map none) (T_wall_share_rep) (Rep.int .i64)) none, .obj true z96 0 (.dat (T_wall_Wall_repo (Value.map none) (Value.map none) (Value.map none))) (⟨none, none, none⟩ : T_wall_Wall)] ++ [.obj true 0 0 (mrep z93 (Rep.str) (T_wall_class_rep)) z91.2.2.of, .obj true 0 0 (mrep z94 (T_wall_sight_rep) (Rep.int .i64)) z91.2.2.seen, .obj true 0 0 (mrep z95 (T_wall_share_rep) (Rep.int .i64)) z91.2.2.has, .obj true z17 z18 (.dat (T_wall_Wall_repo z93 z94 z95)) z91.2.2, .obj true 0 0 (mrep z87 (Rep.str) (T_wall_class_rep)) z85.2.2.of, .obj true 0 0 (mrep z88 (T_wall_sight_rep) (Rep.int .i64)) z85.2.2.seen, .obj true 0 0 (mrep z89 (T_wall_share_rep) (Rep.int .i64)) z85.2.2.has, .obj true z4 z5 (.dat (T_wall_Wall_repo z87 z88 z89)) z85.2.2])) (sub_pick [3, 2, 1, 0, 4, 5, 6, 7, 8, 9, 10, 11] rfl rfl) ?_
      refine o_callX (its := []) (false : Bool) () rfl rfl rfl rfl (guard_some rfl rfl rfl) callable38 (looks_cons (look_tmp rfl) (fun h => h) (looks_cons (look_str (l := []) rfl (by decide)) (fun _ => rfl) (looks_cons (look_str (l := []) rfl (by decide)) (fun _ => rfl) (looks_nil)))) (.cons (.cons (.cons (.cons .nil)))) (wall_Wall_May_ok _ _ _ _ _ (⟨none, none, none⟩ : T_wall_Wall) ([] : Bytes) ([] : Bytes)) (fun _ _ => wr_n) ?_ (fun z99α z98 => ?_)
      · exact fun _ => rfl
      refine o_weak (H' := [.obj true 0 0 (mrep (Value.map none) (Rep.str) (T_wall_class_rep)) none, .obj true 0 0 (mrep (Value.map none) (T_wall_sight_rep) (Rep.int .i64)) none, .obj true 0 0 (mrep (Value.map none) (T_wall_share_rep) (Rep.int .i64)) none, .obj true z96 0 (.dat (T_wall_Wall_repo (Value.map none) (Value.map none) (Value.map none))) (⟨none, none, none⟩ : T_wall_Wall), .obj true 0 0 (mrep z93 (Rep.str) (T_wall_class_rep)) z91.2.2.of, .obj true 0 0 (mrep z94 (T_wall_sight_rep) (Rep.int .i64)) z91.2.2.seen, .obj true 0 0 (mrep z95 (T_wall_share_rep) (Rep.int .i64)) z91.2.2.has, .obj true z17 z18 (.dat (T_wall_Wall_repo z93 z94 z95)) z91.2.2, .obj true 0 0 (mrep z87 (Rep.str) (T_wall_class_rep)) z85.2.2.of, .obj true 0 0 (mrep z88 (T_wall_sight_rep) (Rep.int .i64)) z85.2.2.seen, .obj true 0 0 (mrep z89 (T_wall_share_rep) (Rep.int .i64)) z85.2.2.has, .obj true z4 z5 (.dat (T_wall_Wall_repo z87 z88 z89)) z85.2.2]) (sub_pick [0, 1, 2, 3, 4, 5, 6, 7, 8, 9, 10, 11] rfl rfl) ?_
      refine o_not rfl rfl (guard_some rfl rfl rfl) (look_tmp rfl) (fun h => h) ?_
      refine o_pick rfl rfl guard_none (look_tmp rfl) (look_tmp rfl) look_bool (fun _ => rfl) (fun h1 h2 => pick_t ((fun _ => rfl) h1) h2) (fun _ _ => rfl) ?_
      refine o_move rfl rfl guard_none (look_tmp rfl) (fun _ => rfl) ?_
      refine o_move rfl rfl (guard_some rfl rfl rfl) (look_tmp rfl) (fun _ => rfl) ?_
      refine o_callg rfl rfl rfl (guard_some rfl rfl rfl) callable34 (looks_cons (look_tmp rfl) (fun h => h) (looks_cons (look_str (l := []) rfl (by decide)) (fun _ => rfl) (looks_cons (look_str (l := []) rfl (by decide)) (fun _ => rfl) (looks_nil)))) (wall_Wall_See_n0_ok _ _) (fun z100 => ?_)
      refine o_not rfl rfl (guard_some rfl rfl rfl) (look_tmp rfl) (fun h => h) ?_
      refine o_pick rfl rfl guard_none (look_tmp rfl) (look_tmp rfl) look_bool (fun _ => rfl) (fun h1 h2 => pick_t ((fun _ => rfl) h1) h2) (fun _ _ => rfl) ?_
      refine o_move rfl rfl guard_none (look_tmp rfl) (fun _ => rfl) ?_
      refine o_move rfl rfl (guard_some rfl rfl rfl) (look_tmp rfl) (fun _ => rfl) ?_
      refine o_weak (H' := [.obj true 0 0 (mrep (Value.map none) (Rep.str) (T_wall_class_rep)) none, .obj true 0 0 (mrep (Value.map none) (T_wall_sight_rep) (Rep.int .i64)) none, .obj true 0 0 (mrep (Value.map none) (T_wall_share_rep) (Rep.int .i64)) none, .obj true z96 0 (.dat (T_wall_Wall_repo (Value.map none) (Value.map none) (Value.map none))) (⟨none, none, none⟩ : T_wall_Wall)] ++ ([] ++ [.obj true 0 0 (mrep z93 (Rep.str) (T_wall_class_rep)) z91.2.2.of, .obj true 0 0 (mrep z94 (T_wall_sight_rep) (Rep.int .i64)) z91.2.2.seen, .obj true 0 0 (mrep z95 (T_wall_share_rep) (Rep.int .i64)) z91.2.2.has, .obj true z17 z18 (.dat (T_wall_Wall_repo z93 z94 z95)) z91.2.2, .obj true 0 0 (mrep z87 (Rep.str) (T_wall_class_rep)) z85.2.2.of, .obj true 0 0 (mrep z88 (T_wall_sight_rep) (Rep.int .i64)) z85.2.2.seen, .obj true 0 0 (mrep z89 (T_wall_share_rep) (Rep.int .i64)) z85.2.2.has, .obj true z4 z5 (.dat (T_wall_Wall_repo z87 z88 z89)) z85.2.2])) (sub_pick [0, 1, 2, 3, 4, 5, 6, 7, 8, 9, 10, 11] rfl rfl) ?_
      refine o_callX (its := [.obj true 0 0 (mrep (Value.map none) (Rep.str) (T_wall_class_rep)) none, .obj true 0 0 (mrep (Value.map none) (T_wall_sight_rep) (Rep.int .i64)) none, .obj true 0 0 (mrep (Value.map none) (T_wall_share_rep) (Rep.int .i64)) none, .obj true z96 0 (.dat (T_wall_Wall_repo (Value.map none) (Value.map none) (Value.map none))) (⟨none, none, none⟩ : T_wall_Wall)]) ((false, (⟨none, none, none⟩ : T_wall_Wall)) : (Bool × T_wall_Wall)) ((Value.map none), (Value.map none), (Value.map none)) rfl rfl rfl rfl (guard_some rfl rfl rfl) callable34 (looks_cons (look_tmp rfl) (fun h => h) (looks_cons (look_str (l := []) rfl (by decide)) (fun _ => rfl) (looks_cons (look_str (l := []) rfl (by decide)) (fun _ => rfl) (looks_nil)))) .nil (wall_Wall_See_ok _ _ _ _ _ (⟨none, none, none⟩ : T_wall_Wall) ([] : Bytes) ([] : Bytes)) (fun _ _ => (wr_c (wr_c (wr_c (wr_c wr_n))))) ?_ (fun z102α z101 => ?_)
      · exact fun _ => rfl
      obtain ⟨z103, z104, z105⟩ := z102α
      refine o_weak (H' := [.obj true 0 0 (mrep z103 (Rep.str) (T_wall_class_rep)) z101.2.of, .obj true 0 0 (mrep z104 (T_wall_sight_rep) (Rep.int .i64)) z101.2.seen, .obj true 0 0 (mrep z105 (T_wall_share_rep) (Rep.int .i64)) z101.2.has, .obj true z96 0 (.dat (T_wall_Wall_repo z103 z104 z105)) z101.2, .obj true 0 0 (mrep z93 (Rep.str) (T_wall_class_rep)) z91.2.2.of, .obj true 0 0 (mrep z94 (T_wall_sight_rep) (Rep.int .i64)) z91.2.2.seen, .obj true 0 0 (mrep z95 (T_wall_share_rep) (Rep.int .i64)) z91.2.2.has, .obj true z17 z18 (.dat (T_wall_Wall_repo z93 z94 z95)) z91.2.2, .obj true 0 0 (mrep z87 (Rep.str) (T_wall_class_rep)) z85.2.2.of, .obj true 0 0 (mrep z88 (T_wall_sight_rep) (Rep.int .i64)) z85.2.2.seen, .obj true 0 0 (mrep z89 (T_wall_share_rep) (Rep.int .i64)) z85.2.2.has, .obj true z4 z5 (.dat (T_wall_Wall_repo z87 z88 z89)) z85.2.2]) (sub_pick [0, 1, 2, 3, 4, 5, 6, 7, 8, 9, 10, 11] rfl rfl) ?_
      refine o_not rfl rfl (guard_some rfl rfl rfl) (look_tmp rfl) (fun h => h) ?_
      refine o_pick rfl rfl guard_none (look_tmp rfl) (look_tmp rfl) look_bool (fun _ => rfl) (fun h1 h2 => pick_t ((fun _ => rfl) h1) h2) (fun _ _ => rfl) ?_
      refine o_move rfl rfl guard_none (look_tmp rfl) (fun _ => rfl) ?_
      refine o_move rfl rfl (guard_some rfl rfl rfl) (look_tmp rfl) (fun _ => rfl) ?_
      refine o_callg rfl rfl rfl (guard_some rfl rfl rfl) callable36 (looks_cons (look_tmp rfl) (fun h => h) (looks_cons (look_str (l := []) rfl (by decide)) (fun _ => rfl) (looks_nil))) (wall_Wall_Seen_n0_ok _) (fun z106 => ?_)
      refine o_llen Try.underlying36 rfl rfl (guard_some rfl rfl rfl) (look_tmp rfl) (fun h => h) ?_
      refine o_eql rfl rfl (guard_some rfl rfl rfl) (look_tmp rfl) (look_int rfl) (fun h => h) (fun _ => rfl) ?_
      refine o_pick rfl rfl guard_none (look_tmp rfl) (look_tmp rfl) look_bool (fun _ => rfl) (fun h1 h2 => pick_t ((fun _ => rfl) h1) h2) (fun _ _ => rfl) ?_
      refine o_move rfl rfl guard_none (look_tmp rfl) (fun _ => rfl) ?_
      refine o_move rfl rfl (guard_some rfl rfl rfl) (look_tmp rfl) (fun _ => rfl) ?_
      refine o_weak (H' := [] ++ ([.obj true 0 0 (mrep z103 (Rep.str) (T_wall_class_rep)) z101.2.of, .obj true 0 0 (mrep z104 (T_wall_sight_rep) (Rep.int .i64)) z101.2.seen, .obj true 0 0 (mrep z105 (T_wall_share_rep) (Rep.int .i64)) z101.2.has, .obj true z96 0 (.dat (T_wall_Wall_repo z103 z104 z105)) z101.2] ++ [.obj true 0 0 (mrep z93 (Rep.str) (T_wall_class_rep)) z91.2.2.of, .obj true 0 0 (mrep z94 (T_wall_sight_rep) (Rep.int .i64)) z91.2.2.seen, .obj true 0 0 (mrep z95 (T_wall_share_rep) (Rep.int .i64)) z91.2.2.has, .obj true z17 z18 (.dat (T_wall_Wall_repo z93 z94 z95)) z91.2.2, .obj true 0 0 (mrep z87 (Rep.str) (T_wall_class_rep)) z85.2.2.of, .obj true 0 0 (mrep z88 (T_wall_sight_rep) (Rep.int .i64)) z85.2.2.seen, .obj true 0 0 (mrep z89 (T_wall_share_rep) (Rep.int .i64)) z85.2.2.has, .obj true z4 z5 (.dat (T_wall_Wall_repo z87 z88 z89)) z85.2.2])) (sub_pick [0, 1, 2, 3, 4, 5, 6, 7, 8, 9, 10, 11] rfl rfl) ?_
      refine o_callX (its := []) ([] : (List Bytes)) (Value.slice none 0 0) rfl rfl rfl rfl (guard_some rfl rfl rfl) callable36 (looks_cons (look_tmp rfl) (fun h => h) (looks_cons (look_str (l := []) rfl (by decide)) (fun _ => rfl) (looks_nil))) (.cons (.cons (.cons (.cons .nil)))) (fun_frozen (wall_Wall_Seen_ok _ _ _ _ _ z101.2 ([] : Bytes))) (fun _ _ => wr_n) ?_ (fun z108α z107 => ?_)
      · exact fun _ => rfl
      refine o_weak (H' := [.obj true 0 0 (mrep z103 (Rep.str) (T_wall_class_rep)) z101.2.of, .obj true 0 0 (mrep z104 (T_wall_sight_rep) (Rep.int .i64)) z101.2.seen, .obj true 0 0 (mrep z105 (T_wall_share_rep) (Rep.int .i64)) z101.2.has, .obj true z96 0 (.dat (T_wall_Wall_repo z103 z104 z105)) z101.2, .obj true 0 0 (mrep z93 (Rep.str) (T_wall_class_rep)) z91.2.2.of, .obj true 0 0 (mrep z94 (T_wall_sight_rep) (Rep.int .i64)) z91.2.2.seen, .obj true 0 0 (mrep z95 (T_wall_share_rep) (Rep.int .i64)) z91.2.2.has, .obj true z17 z18 (.dat (T_wall_Wall_repo z93 z94 z95)) z91.2.2, .obj true 0 0 (mrep z87 (Rep.str) (T_wall_class_rep)) z85.2.2.of, .obj true 0 0 (mrep z88 (T_wall_sight_rep) (Rep.int .i64)) z85.2.2.seen, .obj true 0 0 (mrep z89 (T_wall_share_rep) (Rep.int .i64)) z85.2.2.has, .obj true z4 z5 (.dat (T_wall_Wall_repo z87 z88 z89)) z85.2.2]) (sub_pick [0, 1, 2, 3, 4, 5, 6, 7, 8, 9, 10, 11] rfl rfl) ?_
      refine o_llen Try.underlying36 rfl rfl (guard_some rfl rfl rfl) (look_tmp rfl) (fun h => h) ?_
      refine o_eql rfl rfl (guard_some rfl rfl rfl) (look_tmp rfl) (look_int rfl) (fun h => h) (fun _ => rfl) ?_
      refine o_pick rfl rfl guard_none (look_tmp rfl) (look_tmp rfl) look_bool (fun _ => rfl) (fun h1 h2 => pick_t ((fun _ => rfl) h1) h2) (fun _ _ => rfl) ?_
      refine o_move rfl rfl guard_none (look_tmp rfl) (fun _ => rfl) ?_
      refine o_move rfl rfl (guard_some rfl rfl rfl) (look_tmp rfl) (fun _ => rfl) ?_
      refine o_callg rfl rfl rfl (guard_some rfl rfl rfl) callable33 (looks_cons (look_tmp rfl) (fun h => h) (looks_cons (look_str (l := []) rfl (by decide)) (fun _ => rfl) (looks_nil))) (wall_Wall_Forget_n0_ok _) (fun z109 => ?_)
      refine o_eql rfl rfl (guard_some rfl rfl rfl) (look_tmp rfl) (look_int rfl) (fun h => h) (fun _ => rfl) ?_
      refine o_pick rfl rfl guard_none (look_tmp rfl) (look_tmp rfl) look_bool (fun _ => rfl) (fun h1 h2 => pick_t ((fun _ => rfl) h1) h2) (fun _ _ => rfl) ?_
      refine o_move rfl rfl guard_none (look_tmp rfl) (fun _ => rfl) ?_
      refine o_move rfl rfl (guard_some rfl rfl rfl) (look_tmp rfl) (fun _ => rfl) ?_
      refine o_weak (H' := [.obj true 0 0 (mrep z103 (Rep.str) (T_wall_class_rep)) z101.2.of, .obj true 0 0 (mrep z104 (T_wall_sight_rep) (Rep.int .i64)) z101.2.seen, .obj true 0 0 (mrep z105 (T_wall_share_rep) (Rep.int .i64)) z101.2.has, .obj true z96 0 (.dat (T_wall_Wall_repo z103 z104 z105)) z101.2] ++ ([] ++ [.obj true 0 0 (mrep z93 (Rep.str) (T_wall_class_rep)) z91.2.2.of, .obj true 0 0 (mrep z94 (T_wall_sight_rep) (Rep.int .i64)) z91.2.2.seen, .obj true 0 0 (mrep z95 (T_wall_share_rep) (Rep.int .i64)) z91.2.2.has, .obj true z17 z18 (.dat (T_wall_Wall_repo z93 z94 z95)) z91.2.2, .obj true 0 0 (mrep z87 (Rep.str) (T_wall_class_rep)) z85.2.2.of, .obj true 0 0 (mrep z88 (T_wall_sight_rep) (Rep.int .i64)) z85.2.2.seen, .obj true 0 0 (mrep z89 (T_wall_share_rep) (Rep.int .i64)) z85.2.2.has, .obj true z4 z5 (.dat (T_wall_Wall_repo z87 z88 z89)) z85.2.2])) (sub_pick [0, 1, 2, 3, 4, 5, 6, 7, 8, 9, 10, 11] rfl rfl) ?_
      refine o_callX (its := [.obj true 0 0 (mrep z103 (Rep.str) (T_wall_class_rep)) z101.2.of, .obj true 0 0 (mrep z104 (T_wall_sight_rep) (Rep.int .i64)) z101.2.seen, .obj true 0 0 (mrep z105 (T_wall_share_rep) (Rep.int .i64)) z101.2.has, .obj true z96 0 (.dat (T_wall_Wall_repo z103 z104 z105)) z101.2]) ((0, z101.2) : (Int × T_wall_Wall)) (z103, z104, z105) rfl rfl rfl rfl (guard_some rfl rfl rfl) callable33 (looks_cons (look_tmp rfl) (fun h => h) (looks_cons (look_str (l := []) rfl (by decide)) (fun _ => rfl) (looks_nil))) .nil (wall_Wall_Forget_ok _ _ _ _ _ z101.2 ([] : Bytes)) (fun _ _ => (wr_c (wr_c (wr_c (wr_c wr_n))))) ?_ (fun z111α z110 => ?_)
      · exact fun _ => rfl
      obtain ⟨z112, z113, z114⟩ := z111α
      refine o_weak (H' := [.obj true 0 0 (mrep z112 (Rep.str) (T_wall_class_rep)) z110.2.of, .obj true 0 0 (mrep z113 (T_wall_sight_rep) (Rep.int .i64)) z110.2.seen, .obj true 0 0 (mrep z114 (T_wall_share_rep) (Rep.int .i64)) z110.2.has, .obj true z96 0 (.dat (T_wall_Wall_repo z112 z113 z114)) z110.2, .obj true 0 0 (mrep z93 (Rep.str) (T_wall_class_rep)) z91.2.2.of, .obj true 0 0 (mrep z94 (T_wall_sight_rep) (Rep.int .i64)) z91.2.2.seen, .obj true 0 0 (mrep z95 (T_wall_share_rep) (Rep.int .i64)) z91.2.2.has, .obj true z17 z18 (.dat (T_wall_Wall_repo z93 z94 z95)) z91.2.2, .obj true 0 0 (mrep z87 (Rep.str) (T_wall_class_rep)) z85.2.2.of, .obj true 0 0 (mrep z88 (T_wall_sight_rep) (Rep.int .i64)) z85.2.2.seen, .obj true 0 0 (mrep z89 (T_wall_share_rep) (Rep.int .i64)) z85.2.2.has, .obj true z4 z5 (.dat (T_wall_Wall_repo z87 z88 z89)) z85.2.2]) (sub_pick [0, 1, 2, 3, 4, 5, 6, 7, 8, 9, 10, 11] rfl rfl) ?_
      refine o_eql rfl rfl (guard_some rfl rfl rfl) (look_tmp rfl) (look_int rfl) (fun h => h) (fun _ => rfl) ?_
      refine o_pick rfl rfl guard_none (look_tmp rfl) (look_tmp rfl) look_bool (fun _ => rfl) (fun h1 h2 => pick_t ((fun _ => rfl) h1) h2) (fun _ _ => rfl) ?_
      refine o_move rfl rfl guard_none (look_tmp rfl) (fun _ => rfl) ?_
      refine o_move rfl rfl (guard_some rfl rfl rfl) (look_tmp rfl) (fun _ => rfl) ?_
      refine o_callg rfl rfl rfl (guard_some rfl rfl rfl) callable37 (looks_cons (look_tmp rfl) (fun h => h) (looks_cons (look_str (l := []) rfl (by decide)) (fun _ => rfl) (looks_cons (look_str (l := []) rfl (by decide)) (fun _ => rfl) (looks_nil)))) (wall_Wall_Leak_n0_ok _ _) (fun z115 => ?_)
      refine o_not rfl rfl (guard_some rfl rfl rfl) (look_tmp rfl) (fun h => h) ?_
      refine o_pick rfl rfl guard_none (look_tmp rfl) (look_tmp rfl) look_bool (fun _ => rfl) (fun h1 h2 => pick_t ((fun _ => rfl) h1) h2) (fun _ _ => rfl) ?_
      refine o_move rfl rfl guard_none (look_tmp rfl) (fun _ => rfl) ?_
      refine o_move rfl rfl (guard_some rfl rfl rfl) (look_tmp rfl) (fun _ => rfl) ?_
      refine o_weak (H' := [] ++ ([.obj true 0 0 (mrep z112 (Rep.str) (T_wall_class_rep)) z110.2.of, .obj true 0 0 (mrep z113 (T_wall_sight_rep) (Rep.int .i64)) z110.2.seen, .obj true 0 0 (mrep z114 (T_wall_share_rep) (Rep.int .i64)) z110.2.has, .obj true z96 0 (.dat (T_wall_Wall_repo z112 z113 z114)) z110.2] ++ [.obj true 0 0 (mrep z93 (Rep.str) (T_wall_class_rep)) z91.2.2.of, .obj true 0 0 (mrep z94 (T_wall_sight_rep) (Rep.int .i64)) z91.2.2.seen, .obj true 0 0 (mrep z95 (T_wall_share_rep) (Rep.int .i64)) z91.2.2.has, .obj true z17 z18 (.dat (T_wall_Wall_repo z93 z94 z95)) z91.2.2, .obj true 0 0 (mrep z87 (Rep.str) (T_wall_class_rep)) z85.2.2.of, .obj true 0 0 (mrep z88 (T_wall_sight_rep) (Rep.int .i64)) z85.2.2.seen, .obj true 0 0 (mrep z89 (T_wall_share_rep) (Rep.int .i64)) z85.2.2.has, .obj true z4 z5 (.dat (T_wall_Wall_repo z87 z88 z89)) z85.2.2])) (sub_pick [0, 1, 2, 3, 4, 5, 6, 7, 8, 9, 10, 11] rfl rfl) ?_
      refine o_callX (its := []) (false : Bool) () rfl rfl rfl rfl (guard_some rfl rfl rfl) callable37 (looks_cons (look_tmp rfl) (fun h => h) (looks_cons (look_str (l := []) rfl (by decide)) (fun _ => rfl) (looks_cons (look_str (l := []) rfl (by decide)) (fun _ => rfl) (looks_nil)))) (.cons (.cons (.cons (.cons .nil)))) (wall_Wall_Leak_ok _ _ _ _ _ z110.2 ([] : Bytes) ([] : Bytes)) (fun _ _ => wr_n) ?_ (fun z117α z116 => ?_)
      · exact fun _ => rfl
      refine o_weak (H' := [.obj true 0 0 (mrep z112 (Rep.str) (T_wall_class_rep)) z110.2.of, .obj true 0 0 (mrep z113 (T_wall_sight_rep) (Rep.int .i64)) z110.2.seen, .obj true 0 0 (mrep z114 (T_wall_share_rep) (Rep.int .i64)) z110.2.has, .obj true z96 0 (.dat (T_wall_Wall_repo z112 z113 z114)) z110.2, .obj true 0 0 (mrep z93 (Rep.str) (T_wall_class_rep)) z91.2.2.of, .obj true 0 0 (mrep z94 (T_wall_sight_rep) (Rep.int .i64)) z91.2.2.seen, .obj true 0 0 (mrep z95 (T_wall_share_rep) (Rep.int .i64)) z91.2.2.has, .obj true z17 z18 (.dat (T_wall_Wall_repo z93 z94 z95)) z91.2.2, .obj true 0 0 (mrep z87 (Rep.str) (T_wall_class_rep)) z85.2.2.of, .obj true 0 0 (mrep z88 (T_wall_sight_rep) (Rep.int .i64)) z85.2.2.seen, .obj true 0 0 (mrep z89 (T_wall_share_rep) (Rep.int .i64)) z85.2.2.has, .obj true z4 z5 (.dat (T_wall_Wall_repo z87 z88 z89)) z85.2.2]) (sub_pick [0, 1, 2, 3, 4, 5, 6, 7, 8, 9, 10, 11] rfl rfl) ?_
      refine o_not rfl rfl (guard_some rfl rfl rfl) (look_tmp rfl) (fun h => h) ?_
      refine o_pick rfl rfl guard_none (look_tmp rfl) (look_tmp rfl) look_bool (fun _ => rfl) (fun h1 h2 => pick_t ((fun _ => rfl) h1) h2) (fun _ _ => rfl) ?_
      refine o_move rfl rfl guard_none (look_tmp rfl) (fun _ => rfl) ?_
      refine o_move rfl rfl (guard_some rfl rfl rfl) (look_tmp rfl) (fun _ => rfl) ?_
      refine o_callg rfl rfl rfl (guard_some rfl rfl rfl) callable40 (looks_cons (look_tmp rfl) (fun h => h) (looks_nil)) (wall_Wall_Clone_n0_ok) (fun z118 => ?_)
      refine o_neql Try.underlying63 rfl rfl (guard_some rfl rfl rfl) (look_tmp rfl) (fun h => h) ?_
      refine o_pick rfl rfl guard_none (look_tmp rfl) (look_tmp rfl) look_bool (fun _ => rfl) (fun h1 h2 => pick_t ((fun _ => rfl) h1) h2) (fun _ _ => rfl) ?_
      refine o_move rfl rfl guard_none (look_tmp rfl) (fun _ => rfl) ?_
      refine o_move rfl rfl (guard_some rfl rfl rfl) (look_tmp rfl) (fun _ => rfl) ?_
      refine o_weak (H' := [] ++ ([.obj true 0 0 (mrep z112 (Rep.str) (T_wall_class_rep)) z110.2.of, .obj true 0 0 (mrep z113 (T_wall_sight_rep) (Rep.int .i64)) z110.2.seen, .obj true 0 0 (mrep z114 (T_wall_share_rep) (Rep.int .i64)) z110.2.has, .obj true z96 0 (.dat (T_wall_Wall_repo z112 z113 z114)) z110.2] ++ [.obj true 0 0 (mrep z93 (Rep.str) (T_wall_class_rep)) z91.2.2.of, .obj true 0 0 (mrep z94 (T_wall_sight_rep) (Rep.int .i64)) z91.2.2.seen, .obj true 0 0 (mrep z95 (T_wall_share_rep) (Rep.int .i64)) z91.2.2.has, .obj true z17 z18 (.dat (T_wall_Wall_repo z93 z94 z95)) z91.2.2, .obj true 0 0 (mrep z87 (Rep.str) (T_wall_class_rep)) z85.2.2.of, .obj true 0 0 (mrep z88 (T_wall_sight_rep) (Rep.int .i64)) z85.2.2.seen, .obj true 0 0 (mrep z89 (T_wall_share_rep) (Rep.int .i64)) z85.2.2.has, .obj true z4 z5 (.dat (T_wall_Wall_repo z87 z88 z89)) z85.2.2])) (sub_pick [0, 1, 2, 3, 4, 5, 6, 7, 8, 9, 10, 11] rfl rfl) ?_
      refine o_callX (its := []) (none : (Option T_wall_Wall)) ((0, 0), (Value.slice none 0 0), (Value.slice none 0 0), (Value.slice none 0 0)) rfl rfl rfl rfl (guard_some rfl rfl rfl) callable40 (looks_cons (look_tmp rfl) (fun h => h) (looks_nil)) (.cons (.cons (.cons (.cons .nil)))) (wall_Wall_Clone_ok _ _ _ _ _ z110.2) (fun _ _ => (wr_ol (fun _ => (wr_c (wr_c (wr_c (wr_c wr_n))))) wr_n)) ?_ (fun z120α z119 => ?_)
      · exact fun _ => rfl
      obtain ⟨⟨z121, z122⟩, z123, z124, z125⟩ := z120α
      rcases z119 with _ | z126
      · refine o_weak (H' := [.obj true 0 0 (mrep z112 (Rep.str) (T_wall_class_rep)) z110.2.of, .obj true 0 0 (mrep z113 (T_wall_sight_rep) (Rep.int .i64)) z110.2.seen, .obj true 0 0 (mrep z114 (T_wall_share_rep) (Rep.int .i64)) z110.2.has, .obj true z96 0 (.dat (T_wall_Wall_repo z112 z113 z114)) z110.2, .obj true 0 0 (mrep z93 (Rep.str) (T_wall_class_rep)) z91.2.2.of, .obj true 0 0 (mrep z94 (T_wall_sight_rep) (Rep.int .i64)) z91.2.2.seen, .obj true 0 0 (mrep z95 (T_wall_share_rep) (Rep.int .i64)) z91.2.2.has, .obj true z17 z18 (.dat (T_wall_Wall_repo z93 z94 z95)) z91.2.2, .obj true 0 0 (mrep z87 (Rep.str) (T_wall_class_rep)) z85.2.2.of, .obj true 0 0 (mrep z88 (T_wall_sight_rep) (Rep.int .i64)) z85.2.2.seen, .obj true 0 0 (mrep z89 (T_wall_share_rep) (Rep.int .i64)) z85.2.2.has, .obj true z4 z5 (.dat (T_wall_Wall_repo z87 z88 z89)) z85.2.2]) (sub_pick [0, 1, 2, 3, 4, 5, 6, 7, 8, 9, 10, 11] rfl rfl) ?_
        refine o_asnil ?_
        refine o_optn ?_
        refine o_neql Try.underlying63 rfl rfl (guard_some rfl rfl rfl) (look_tmp rfl) (fun h => h) ?_
        refine o_pick rfl rfl guard_none (look_tmp rfl) (look_tmp rfl) look_bool (fun _ => rfl) (fun h1 h2 => pick_t ((fun _ => rfl) h1) h2) (fun _ _ => rfl) ?_
        refine o_assign rfl rfl guard_none (look_tmp rfl) (fun _ => rfl) ?_
        refine o_lt (fun z127 => ?_)
        refine o_end ?_
        refine den_code_ret ?_
        exact dene_res (res1 rfl (rv_tmp rfl))
      · refine o_weak (H' := [.obj true 0 0 (mrep z123 (Rep.str) (T_wall_class_rep)) z126.of, .obj true 0 0 (mrep z124 (T_wall_sight_rep) (Rep.int .i64)) z126.seen, .obj true 0 0 (mrep z125 (T_wall_share_rep) (Rep.int .i64)) z126.has, .obj true z121 z122 (.dat (T_wall_Wall_repo z123 z124 z125)) z126, .obj true 0 0 (mrep z112 (Rep.str) (T_wall_class_rep)) z110.2.of, .obj true 0 0 (mrep z113 (T_wall_sight_rep) (Rep.int .i64)) z110.2.seen, .obj true 0 0 (mrep z114 (T_wall_share_rep) (Rep.int .i64)) z110.2.has, .obj true z96 0 (.dat (T_wall_Wall_repo z112 z113 z114)) z110.2, .obj true 0 0 (mrep z93 (Rep.str) (T_wall_class_rep)) z91.2.2.of, .obj true 0 0 (mrep z94 (T_wall_sight_rep) (Rep.int .i64)) z91.2.2.seen, .obj true 0 0 (mrep z95 (T_wall_share_rep) (Rep.int .i64)) z91.2.2.has, .obj true z17 z18 (.dat (T_wall_Wall_repo z93 z94 z95)) z91.2.2, .obj true 0 0 (mrep z87 (Rep.str) (T_wall_class_rep)) z85.2.2.of, .obj true 0 0 (mrep z88 (T_wall_sight_rep) (Rep.int .i64)) z85.2.2.seen, .obj true 0 0 (mrep z89 (T_wall_share_rep) (Rep.int .i64)) z85.2.2.has, .obj true z4 z5 (.dat (T_wall_Wall_repo z87 z88 z89)) z85.2.2]) (sub_pick [0, 1, 2, 3, 4, 5, 6, 7, 8, 9, 10, 11, 12, 13, 14, 15] rfl rfl) ?_
        refine o_asptr ?_
        refine o_opts ?_
        refine o_peql Try.underlying63 rfl rfl (guard_some rfl rfl rfl) (look_tmp rfl) (fun h => h) ?_
        refine o_pick rfl rfl guard_none (look_tmp rfl) (look_tmp rfl) look_bool (fun _ => rfl) (fun h1 h2 => pick_t ((fun _ => rfl) h1) h2) (fun _ _ => rfl) ?_
        refine o_assign rfl rfl guard_none (look_tmp rfl) (fun _ => rfl) ?_
        refine o_lt (fun z128 => ?_)
        refine o_end ?_
        refine den_code_ret ?_
        exact dene_res (res1 rfl (rv_tmp rfl))

end Go.Proofs.Ytijfebipalhhjaa.M
