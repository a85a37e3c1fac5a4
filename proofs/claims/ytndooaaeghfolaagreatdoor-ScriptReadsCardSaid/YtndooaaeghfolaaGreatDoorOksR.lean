/- That the Go functions answer as the plain ones: written by gen2.py. -/
import Derived.Test.YtndooaaeghfolaaGreatDoorOks2
namespace Go.Proofs.YtndooaaeghfolaaGreatDoor.M
open Go.Eng Go
set_option linter.unusedVariables false

theorem ref28_value_ok  (v_0 : T_api_Value) : FunOk Tryz.prog 22 [⟨T_api_Value_rep, v_0, true⟩] (ref28_value v_0) (Rep.pair (Rep.str) (Rep.bool)) := by
 refine fun_ok Tryz.func22 rfl Tryz.ntmps22 rfl (all_cons rfl all_nil) (fun w0 ok0 => ?_)
 refine den_seq ?_
 refine den_region rfl ?_
 refine o_box rfl rfl (look_tmp rfl) rfl (fun z1 => ?_)
 refine o_assign rfl rfl guard_none (look_str (l := []) rfl (by decide)) (fun _ => rfl) ?_
 refine o_assign rfl rfl guard_none look_bool (fun _ => rfl) ?_
 refine o_end ?_
 refine den_seq ?_
 refine den_seq ?_
 refine den_region rfl ?_
 refine o_faddr field25_0 type3 (by decide) rfl rfl guard_none (look_tmp rfl) (fun _ => rfl) ?_
 refine o_oloadi 0 rfl type3 T_api_Value_foc0 rfl guard_none (look_tmp rfl) (fun _ => rfl) ?_
 refine o_eql rfl rfl guard_none (look_tmp rfl) (look_int rfl) (fun _ => rfl) (fun _ => rfl) ?_
 refine o_end ?_
 refine den_cond (look_tmp rfl) ?_ ?_
 ·refine den_seq ?_
  refine den_region rfl ?_
  refine o_faddr field25_1 type2 (by decide) rfl rfl guard_none (look_tmp rfl) (fun _ => rfl) ?_
  refine o_oloadi 0 rfl type2 T_api_Value_foc1 rfl guard_none (look_tmp rfl) (fun _ => rfl) ?_
  refine o_call rfl rfl rfl callable21 (looks_cons (look_tmp rfl) (fun _ => rfl) (looks_nil)) (ref01_Decimal_ok _) (fun z2 => ?_)
  refine o_assign rfl rfl guard_none (look_tmp rfl) (fun _ => rfl) ?_
  refine o_assign rfl rfl guard_none look_bool (fun _ => rfl) ?_
  refine o_end ?_
  refine den_code_ret ?_
  refine dene_ret ?_
  exact dene_res (res2 rfl (rv_tmp rfl) (rv_tmp rfl))
 ·refine den_skip ?_
  refine den_seq ?_
  refine den_seq ?_
  refine den_region rfl ?_
  refine o_faddr field25_0 type3 (by decide) rfl rfl guard_none (look_tmp rfl) (fun _ => rfl) ?_
  refine o_oloadi 0 rfl type3 T_api_Value_foc0 rfl guard_none (look_tmp rfl) (fun _ => rfl) ?_
  refine o_eql rfl rfl guard_none (look_tmp rfl) (look_int rfl) (fun _ => rfl) (fun _ => rfl) ?_
  refine o_move rfl rfl guard_none (look_tmp rfl) (fun _ => rfl) ?_
  refine o_faddr field25_1 type2 (by decide) rfl rfl (guard_some rfl rfl rfl) (look_tmp rfl) (fun _ => rfl) ?_
  refine o_oloadi 0 rfl type2 T_api_Value_foc1 rfl (guard_some rfl rfl rfl) (look_tmp rfl) (fun h => h) ?_
  refine o_eql rfl rfl (guard_some rfl rfl rfl) (look_tmp rfl) (look_int rfl) (fun h => h) (fun _ => rfl) ?_
  refine o_pick rfl rfl guard_none (look_tmp rfl) (look_tmp rfl) look_bool (fun _ => rfl) (fun h1 h2 => pick_t ((fun _ => rfl) h1) h2) (fun _ _ => rfl) ?_
  refine o_end ?_
  refine den_cond (look_tmp rfl) ?_ ?_
  ·refine den_seq ?_
   refine den_region rfl ?_
   refine o_assign rfl rfl guard_none (look_str (l := [116, 114, 117, 101]) rfl (by decide)) (fun _ => rfl) ?_
   refine o_assign rfl rfl guard_none look_bool (fun _ => rfl) ?_
   refine o_end ?_
   refine den_code_ret ?_
   refine dene_ret ?_
   exact dene_res (res2 rfl (rv_tmp rfl) (rv_tmp rfl))
  ·refine den_skip ?_
   refine den_seq ?_
   refine den_seq ?_
   refine den_region rfl ?_
   refine o_faddr field25_0 type3 (by decide) rfl rfl guard_none (look_tmp rfl) (fun _ => rfl) ?_
   refine o_oloadi 0 rfl type3 T_api_Value_foc0 rfl guard_none (look_tmp rfl) (fun _ => rfl) ?_
   refine o_eql rfl rfl guard_none (look_tmp rfl) (look_int rfl) (fun _ => rfl) (fun _ => rfl) ?_
   refine o_end ?_
   refine den_cond (look_tmp rfl) ?_ ?_
   ·refine den_seq ?_
    refine den_region rfl ?_
    refine o_assign rfl rfl guard_none (look_str (l := [102, 97, 108, 115, 101]) rfl (by decide)) (fun _ => rfl) ?_
    refine o_assign rfl rfl guard_none look_bool (fun _ => rfl) ?_
    refine o_end ?_
    refine den_code_ret ?_
    refine dene_ret ?_
    exact dene_res (res2 rfl (rv_tmp rfl) (rv_tmp rfl))
   ·refine den_skip ?_
    refine den_seq ?_
    refine den_seq ?_
    refine den_region rfl ?_
    refine o_faddr field25_0 type3 (by decide) rfl rfl guard_none (look_tmp rfl) (fun _ => rfl) ?_
    refine o_oloadi 0 rfl type3 T_api_Value_foc0 rfl guard_none (look_tmp rfl) (fun _ => rfl) ?_
    refine o_eql rfl rfl guard_none (look_tmp rfl) (look_int rfl) (fun _ => rfl) (fun _ => rfl) ?_
    refine o_end ?_
    refine den_cond (look_tmp rfl) ?_ ?_
    ·refine den_seq ?_
     refine den_open (fun z3 h_z3 => ?_)
     refine den_open (fun z4 h_z4 => ?_)
     refine den_open (fun z5 h_z5 => ?_)
     refine den_draw [(26, ⟨Rep.addr, (z1, 0 + 2), true⟩), (27, ⟨Rep.str, v_0.S, true⟩), (28, ⟨Rep.str, z3, true⟩), (29, ⟨Rep.str, z4, true⟩), (30, ⟨Rep.addr, (z1, 0 + 2), true⟩), (31, ⟨Rep.str, v_0.S, true⟩), (32, ⟨Rep.bool, z5, true⟩), (2, ⟨Rep.str, z4, true⟩), (3, ⟨Rep.bool, z5, true⟩)] mixed rfl rfl ⟨?_, ?_, ?_, ?_, ?_, ?_, ?_, ?_, ?_, trivial⟩ ?_
     ·intro S hc hk hp
      refine o_faddr field25_2 type9 (by decide) rfl rfl guard_none (look_o rfl rfl) (fun _ => rfl) ?_
      exact d_end rfl rfl rfl
     ·intro S hc hk hp
      refine o_oloadi 0 rfl type9 T_api_Value_foc2 rfl guard_none (look_d rfl rfl (pr hp 0 rfl rfl)) (fun _ => rfl) ?_
      exact d_end rfl rfl rfl
     ·intro S hc hk hp
      refine o_from (bind_eqO h_z3) ?_
      refine o_sadd rfl rfl (look_str (l := [34]) rfl (by decide)) (look_d rfl rfl (pr hp 0 rfl rfl)) rfl rfl (o_eqO ?_)
      exact d_end rfl rfl rfl
     ·intro S hc hk hp
      refine o_from (bind_eqO h_z4) ?_
      refine o_sadd rfl rfl (look_d rfl rfl (pr hp 0 rfl rfl)) (look_str (l := [34]) rfl (by decide)) rfl rfl (o_eqO ?_)
      exact d_end rfl rfl rfl
     ·intro S hc hk hp
      refine o_faddr field25_2 type9 (by decide) rfl rfl guard_none (look_o rfl rfl) (fun _ => rfl) ?_
      exact d_end rfl rfl rfl
     ·intro S hc hk hp
      refine o_oloadi 0 rfl type9 T_api_Value_foc2 rfl guard_none (look_d rfl rfl (pr hp 0 rfl rfl)) (fun _ => rfl) ?_
      exact d_end rfl rfl rfl
     ·intro S hc hk hp
      refine o_from (bind_eqO h_z5) ?_
      refine o_call rfl rfl rfl callable41 (looks_cons (look_d rfl rfl (pr hp 0 rfl rfl)) (fun _ => rfl) (looks_nil)) (ref06_Plain_ok _) (o_eqO ?_)
      exact d_end rfl rfl rfl
     ·intro S hc hk hp
      refine o_assign rfl rfl guard_none (look_d rfl rfl (pr hp 0 rfl rfl)) (fun _ => rfl) ?_
      exact d_end rfl rfl rfl
     ·intro S hc hk hp
      refine o_assign rfl rfl guard_none (look_d rfl rfl (pr hp 0 rfl rfl)) (fun _ => rfl) ?_
      exact d_end rfl rfl rfl
     refine den_code_ret ?_
     refine dene_ret ?_
     exact dene_res (res2 rfl (rv_tmp rfl) (rv_tmp rfl))
    ·refine den_skip ?_
     refine den_seq ?_
     refine den_region rfl ?_
     refine o_assign rfl rfl guard_none (look_str (l := [123]) rfl (by decide)) (fun _ => rfl) ?_
     refine o_end ?_
     refine den_seq ?_
     refine den_seq ?_
     refine den_region rfl ?_
     refine o_assign rfl rfl guard_none (look_int rfl) (fun _ => rfl) ?_
     refine o_end ?_
     refine den_both (fun z6 => [(4, ⟨Rep.str, z6, true⟩)]) (fun z6 => []) ?_ (fun z6 => ?_)
     ·refine den_block ?_
      refine den_loop (ref28_value_L1b v_0) (fun z8 => [(4, ⟨Rep.str, z8.1, true⟩), (5, ⟨Rep.int .i64, z8.2, true⟩), (1, ⟨Rep.addr, (z1, 0), true⟩)]) (fun z8 => [.obj true z1 0 (.dat T_api_Value_rep) v_0]) (([123] : Bytes), 0) (fun z8 => ?_) ((sub_env (sube_cons rfl (sube_cons rfl (sube_cons rfl (sube_nil))))))
      refine den_seq ?_
      refine den_seq ?_
      refine den_region rfl ?_
      refine o_move rfl rfl guard_none (look_tmp rfl) (fun _ => rfl) ?_
      refine o_faddr field25_3 type23 (by decide) rfl rfl guard_none (look_tmp rfl) (fun _ => rfl) ?_
      refine o_oloadi 0 rfl type23 T_api_Value_foc3 rfl guard_none (look_tmp rfl) (fun _ => rfl) ?_
      refine o_llen Tryz.underlying23 rfl rfl guard_none (look_tmp rfl) (fun _ => rfl) ?_
      refine o_lss rfl rfl guard_none (look_tmp rfl) (look_tmp rfl) (fun _ => rfl) (fun _ => rfl) ?_
      refine o_end ?_
      refine den_cond (look_tmp rfl) ?_ ?_
      ·refine den_skip ?_
       refine den_seq ?_
       refine den_block ?_
       refine den_seq ?_
       refine den_seq ?_
       refine den_region rfl ?_
       refine o_faddr field25_3 type23 (by decide) rfl rfl guard_none (look_tmp rfl) (fun _ => rfl) ?_
       refine o_oloadi 0 rfl type23 T_api_Value_foc3 rfl guard_none (look_tmp rfl) (fun _ => rfl) ?_
       refine o_move rfl rfl guard_none (look_tmp rfl) (fun _ => rfl) ?_
       refine o_iaddr Tryz.underlying23 type9 rfl rfl (look_tmp rfl) (look_tmp rfl) rfl rfl (fun z9 => ?_)
       refine o_load type9 rfl rfl guard_none (look_tmp rfl) (fun _ => rfl) ?_
       refine o_call rfl rfl rfl callable41 (looks_cons (look_tmp rfl) (fun _ => rfl) (looks_nil)) (ref06_Plain_ok _) (fun z10 => ?_)
       refine o_not rfl rfl guard_none (look_tmp rfl) (fun _ => rfl) ?_
       refine o_end ?_
       refine den_cond (look_tmp rfl) ?_ ?_
       ·refine den_seq ?_
        refine den_region rfl ?_
        refine o_assign rfl rfl guard_none (look_str (l := []) rfl (by decide)) (fun _ => rfl) ?_
        refine o_assign rfl rfl guard_none look_bool (fun _ => rfl) ?_
        refine o_end ?_
        refine den_code_ret ?_
        refine dene_ret ?_
        refine dene_loop (by simp) ?_
        refine dene_ret ?_
        refine dene_both (by simp) ?_
        refine dene_ret ?_
        exact dene_res (res2 rfl (rv_tmp rfl) (rv_tmp rfl))
       ·refine den_skip ?_
        refine den_seq ?_
        refine den_seq ?_
        refine den_region rfl ?_
        refine o_move rfl rfl guard_none (look_tmp rfl) (fun _ => rfl) ?_
        refine o_gtr rfl rfl guard_none (look_tmp rfl) (look_int rfl) (fun _ => rfl) (fun _ => rfl) ?_
        refine o_end ?_
        refine den_bind (fun z11 => [(4, ⟨Rep.str, z11, true⟩), (1, ⟨Rep.addr, (z1, 0), true⟩), (5, ⟨Rep.int .i64, z8.2, true⟩)]) (fun z11 => [.obj true z1 0 (.dat T_api_Value_rep) v_0]) ?_ (fun z11 => ?_)
        ·refine den_cond (look_tmp rfl) ?_ ?_
         ·refine den_region rfl ?_
          refine o_move rfl rfl guard_none (look_tmp rfl) (fun _ => rfl) ?_
          refine o_sadd rfl rfl (look_tmp rfl) (look_str (l := [44]) rfl (by decide)) rfl rfl (fun z16 => ?_)
          refine o_assign rfl rfl guard_none (look_tmp rfl) (fun _ => rfl) ?_
          refine o_end ?_
          refine den_end ((sub_env (sube_cons rfl (sube_cons rfl (sube_cons rfl (sube_nil))))))
         ·refine den_skip ?_
          refine den_end ((sub_env (sube_cons rfl (sube_cons rfl (sube_cons rfl (sube_nil))))))
        refine den_region rfl ?_
        refine o_move rfl rfl guard_none (look_tmp rfl) (fun _ => rfl) ?_
        refine o_sadd rfl rfl (look_tmp rfl) (look_str (l := [34]) rfl (by decide)) rfl rfl (fun z12 => ?_)
        refine o_faddr field25_3 type23 (by decide) rfl rfl guard_none (look_tmp rfl) (fun _ => rfl) ?_
        refine o_oloadi 0 rfl type23 T_api_Value_foc3 rfl guard_none (look_tmp rfl) (fun _ => rfl) ?_
        refine o_move rfl rfl guard_none (look_tmp rfl) (fun _ => rfl) ?_
        refine o_iaddr Tryz.underlying23 type9 rfl rfl (look_tmp rfl) (look_tmp rfl) rfl rfl (fun z13 => ?_)
        refine o_load type9 rfl rfl guard_none (look_tmp rfl) (fun _ => rfl) ?_
        refine o_sadd rfl rfl (look_tmp rfl) (look_tmp rfl) rfl rfl (fun z14 => ?_)
        refine o_sadd rfl rfl (look_tmp rfl) (look_str (l := [34]) rfl (by decide)) rfl rfl (fun z15 => ?_)
        refine o_assign rfl rfl guard_none (look_tmp rfl) (fun _ => rfl) ?_
        refine o_end ?_
        refine den_blkend ?_
        refine den_region rfl ?_
        refine o_move rfl rfl guard_none (look_tmp rfl) (fun _ => rfl) ?_
        refine o_add rfl rfl guard_none (look_tmp rfl) (look_int rfl) (fun _ => rfl) (fun _ => rfl) ?_
        refine o_assign rfl rfl guard_none (look_tmp rfl) (fun _ => rfl) ?_
        refine o_end ?_
        refine den_next ((sub_env (sube_cons rfl (sube_cons rfl (sube_cons rfl (sube_nil))))))
      ·refine den_code_exit ?_
       refine dene_out rfl ?_
       refine dene_loop (by simp) ?_
       refine dene_to rfl ?_
       refine den_endl ((Sub.trans (sub_pick [] rfl rfl) (sub_env (sube_cons rfl (sube_nil)))))
     refine den_seq ?_
     refine den_region rfl ?_
     refine o_move rfl rfl guard_none (look_tmp rfl) (fun _ => rfl) ?_
     refine o_sadd rfl rfl (look_tmp rfl) (look_str (l := [125]) rfl (by decide)) rfl rfl (fun z7 => ?_)
     refine o_assign rfl rfl guard_none (look_tmp rfl) (fun _ => rfl) ?_
     refine o_assign rfl rfl guard_none look_bool (fun _ => rfl) ?_
     refine o_end ?_
     refine den_code_ret ?_
     exact dene_res (res2 rfl (rv_tmp rfl) (rv_tmp rfl))

theorem ref28_Line_ok  (e_0 : T_api_Event) : FunOk Tryz.prog 10 [⟨T_api_Event_rep, e_0, true⟩] (ref28_Line e_0) (Rep.pair (Rep.str) (Rep.int .i64)) := by
 refine fun_ok Tryz.func10 rfl Tryz.ntmps10 rfl (all_cons rfl all_nil) (fun w0 ok0 => ?_)
 refine den_seq ?_
 refine den_region rfl ?_
 refine o_box rfl rfl (look_tmp rfl) rfl (fun z1 => ?_)
 refine o_assign rfl rfl guard_none (look_str (l := []) rfl (by decide)) (fun _ => rfl) ?_
 refine o_assign rfl rfl guard_none (look_int rfl) (fun _ => rfl) ?_
 refine o_end ?_
 refine den_seq ?_
 refine den_seq ?_
 refine den_region rfl ?_
 refine o_oloadi 0 rfl type27 foc_self rfl guard_none (look_tmp rfl) (fun _ => rfl) ?_
 refine o_call rfl rfl rfl callable20 (looks_cons (look_tmp rfl) (fun _ => rfl) (looks_nil)) (ref23_Check_ok _) (fun z2 => ?_)
 refine o_assign rfl rfl guard_none (look_tmp rfl) (fun _ => rfl) ?_
 refine o_end ?_
 refine den_seq ?_
 refine den_region rfl ?_
 refine o_move rfl rfl guard_none (look_tmp rfl) (fun _ => rfl) ?_
 refine o_neq rfl rfl guard_none (look_tmp rfl) (look_int rfl) (fun _ => rfl) (fun _ => rfl) ?_
 refine o_end ?_
 refine den_cond (look_tmp rfl) ?_ ?_
 ·refine den_seq ?_
  refine den_region rfl ?_
  refine o_move rfl rfl guard_none (look_tmp rfl) (fun _ => rfl) ?_
  refine o_assign rfl rfl guard_none (look_str (l := []) rfl (by decide)) (fun _ => rfl) ?_
  refine o_assign rfl rfl guard_none (look_tmp rfl) (fun _ => rfl) ?_
  refine o_end ?_
  refine den_code_ret ?_
  refine dene_ret ?_
  exact dene_res (res2 rfl (rv_tmp rfl) (rv_tmp rfl))
 ·refine den_skip ?_
  refine den_seq ?_
  refine den_open (fun z3 h_z3 => ?_)
  refine den_open (fun z4 h_z4 => ?_)
  refine den_open (fun z5 h_z5 => ?_)
  refine den_draw [(14, ⟨Rep.addr, (z1, 0), true⟩), (15, ⟨Rep.int .i64, e_0.At, true⟩), (16, ⟨Rep.str, z3, true⟩), (17, ⟨Rep.str, z4, true⟩), (18, ⟨Rep.addr, (z1, 0 + 2), true⟩), (19, ⟨Rep.int .i64, e_0.Id, true⟩), (20, ⟨Rep.str, z5, true⟩), (5, ⟨Rep.str, z4, true⟩), (6, ⟨Rep.str, z5, true⟩)] mixed rfl rfl ⟨?_, ?_, ?_, ?_, ?_, ?_, ?_, ?_, ?_, trivial⟩ ?_
  ·intro S hc hk hp
   refine o_faddr field27_0 type2 (by decide) rfl rfl guard_none (look_o rfl rfl) (fun _ => rfl) ?_
   exact d_end rfl rfl rfl
  ·intro S hc hk hp
   refine o_oloadi 0 rfl type2 T_api_Event_foc0 rfl guard_none (look_d rfl rfl (pr hp 0 rfl rfl)) (fun _ => rfl) ?_
   exact d_end rfl rfl rfl
  ·intro S hc hk hp
   refine o_from (bind_eqO h_z3) ?_
   refine o_call rfl rfl rfl callable21 (looks_cons (look_d rfl rfl (pr hp 0 rfl rfl)) (fun _ => rfl) (looks_nil)) (ref01_Decimal_ok _) (o_eqO ?_)
   exact d_end rfl rfl rfl
  ·intro S hc hk hp
   refine o_from (bind_eqO h_z4) ?_
   refine o_sadd rfl rfl (look_d rfl rfl (pr hp 0 rfl rfl)) (look_str (l := [32]) rfl (by decide)) rfl rfl (o_eqO ?_)
   exact d_end rfl rfl rfl
  ·intro S hc hk hp
   refine o_faddr field27_2 type3 (by decide) rfl rfl guard_none (look_o rfl rfl) (fun _ => rfl) ?_
   exact d_end rfl rfl rfl
  ·intro S hc hk hp
   refine o_oloadi 0 rfl type3 T_api_Event_foc2 rfl guard_none (look_d rfl rfl (pr hp 0 rfl rfl)) (fun _ => rfl) ?_
   exact d_end rfl rfl rfl
  ·intro S hc hk hp
   refine o_from (bind_eqO h_z5) ?_
   refine o_call rfl rfl rfl callable21 (looks_cons (look_d rfl rfl (pr hp 0 rfl rfl)) (fun _ => rfl) (looks_nil)) (ref01_Decimal_ok _) (o_eqO ?_)
   exact d_end rfl rfl rfl
  ·intro S hc hk hp
   refine o_assign rfl rfl guard_none (look_d rfl rfl (pr hp 0 rfl rfl)) (fun _ => rfl) ?_
   exact d_end rfl rfl rfl
  ·intro S hc hk hp
   refine o_assign rfl rfl guard_none (look_d rfl rfl (pr hp 0 rfl rfl)) (fun _ => rfl) ?_
   exact d_end rfl rfl rfl
  refine den_seq ?_
  refine den_seq ?_
  refine den_region rfl ?_
  refine o_faddr field27_1 type3 (by decide) rfl rfl guard_none (look_tmp rfl) (fun _ => rfl) ?_
  refine o_oloadi 0 rfl type3 T_api_Event_foc1 rfl guard_none (look_tmp rfl) (fun _ => rfl) ?_
  refine o_eql rfl rfl guard_none (look_tmp rfl) (look_int rfl) (fun _ => rfl) (fun _ => rfl) ?_
  refine o_end ?_
  refine den_cond (look_tmp rfl) ?_ ?_
  ·refine den_seq ?_
   refine den_region rfl ?_
   refine o_move rfl rfl guard_none (look_tmp rfl) (fun _ => rfl) ?_
   refine o_sadd rfl rfl (look_tmp rfl) (look_str (l := [116, 114, 121, 32]) rfl (by decide)) rfl rfl (fun z6 => ?_)
   refine o_move rfl rfl guard_none (look_tmp rfl) (fun _ => rfl) ?_
   refine o_sadd rfl rfl (look_tmp rfl) (look_tmp rfl) rfl rfl (fun z7 => ?_)
   refine o_sadd rfl rfl (look_tmp rfl) (look_str (l := [32]) rfl (by decide)) rfl rfl (fun z8 => ?_)
   refine o_faddr field27_3 type9 (by decide) rfl rfl guard_none (look_tmp rfl) (fun _ => rfl) ?_
   refine o_oloadi 0 rfl type9 T_api_Event_foc3 rfl guard_none (look_tmp rfl) (fun _ => rfl) ?_
   refine o_sadd rfl rfl (look_tmp rfl) (look_tmp rfl) rfl rfl (fun z9 => ?_)
   refine o_sadd rfl rfl (look_tmp rfl) (look_str (l := [32]) rfl (by decide)) rfl rfl (fun z10 => ?_)
   refine o_faddr field27_4 type9 (by decide) rfl rfl guard_none (look_tmp rfl) (fun _ => rfl) ?_
   refine o_oloadi 0 rfl type9 T_api_Event_foc4 rfl guard_none (look_tmp rfl) (fun _ => rfl) ?_
   refine o_sadd rfl rfl (look_tmp rfl) (look_tmp rfl) rfl rfl (fun z11 => ?_)
   refine o_sadd rfl rfl (look_tmp rfl) (look_str (l := [32]) rfl (by decide)) rfl rfl (fun z12 => ?_)
   refine o_faddr field27_5 type9 (by decide) rfl rfl guard_none (look_tmp rfl) (fun _ => rfl) ?_
   refine o_oloadi 0 rfl type9 T_api_Event_foc5 rfl guard_none (look_tmp rfl) (fun _ => rfl) ?_
   refine o_sadd rfl rfl (look_tmp rfl) (look_tmp rfl) rfl rfl (fun z13 => ?_)
   refine o_assign rfl rfl guard_none (look_tmp rfl) (fun _ => rfl) ?_
   refine o_assign rfl rfl guard_none (look_int rfl) (fun _ => rfl) ?_
   refine o_end ?_
   refine den_code_ret ?_
   refine dene_ret ?_
   exact dene_res (res2 rfl (rv_tmp rfl) (rv_tmp rfl))
  ·refine den_skip ?_
   refine den_seq ?_
   refine den_seq ?_
   refine den_region rfl ?_
   refine o_faddr field27_1 type3 (by decide) rfl rfl guard_none (look_tmp rfl) (fun _ => rfl) ?_
   refine o_oloadi 0 rfl type3 T_api_Event_foc1 rfl guard_none (look_tmp rfl) (fun _ => rfl) ?_
   refine o_eql rfl rfl guard_none (look_tmp rfl) (look_int rfl) (fun _ => rfl) (fun _ => rfl) ?_
   refine o_end ?_
   refine den_cond (look_tmp rfl) ?_ ?_
   ·refine den_seq ?_
    refine den_region rfl ?_
    refine o_move rfl rfl guard_none (look_tmp rfl) (fun _ => rfl) ?_
    refine o_sadd rfl rfl (look_tmp rfl) (look_str (l := [117, 115, 101, 32]) rfl (by decide)) rfl rfl (fun z14 => ?_)
    refine o_move rfl rfl guard_none (look_tmp rfl) (fun _ => rfl) ?_
    refine o_sadd rfl rfl (look_tmp rfl) (look_tmp rfl) rfl rfl (fun z15 => ?_)
    refine o_sadd rfl rfl (look_tmp rfl) (look_str (l := [32]) rfl (by decide)) rfl rfl (fun z16 => ?_)
    refine o_faddr field27_5 type9 (by decide) rfl rfl guard_none (look_tmp rfl) (fun _ => rfl) ?_
    refine o_oloadi 0 rfl type9 T_api_Event_foc5 rfl guard_none (look_tmp rfl) (fun _ => rfl) ?_
    refine o_sadd rfl rfl (look_tmp rfl) (look_tmp rfl) rfl rfl (fun z17 => ?_)
    refine o_assign rfl rfl guard_none (look_tmp rfl) (fun _ => rfl) ?_
    refine o_assign rfl rfl guard_none (look_int rfl) (fun _ => rfl) ?_
    refine o_end ?_
    refine den_code_ret ?_
    refine dene_ret ?_
    exact dene_res (res2 rfl (rv_tmp rfl) (rv_tmp rfl))
   ·refine den_skip ?_
    refine den_seq ?_
    refine den_seq ?_
    refine den_region rfl ?_
    refine o_faddr field27_1 type3 (by decide) rfl rfl guard_none (look_tmp rfl) (fun _ => rfl) ?_
    refine o_oloadi 0 rfl type3 T_api_Event_foc1 rfl guard_none (look_tmp rfl) (fun _ => rfl) ?_
    refine o_eql rfl rfl guard_none (look_tmp rfl) (look_int rfl) (fun _ => rfl) (fun _ => rfl) ?_
    refine o_end ?_
    refine den_cond (look_tmp rfl) ?_ ?_
    ·refine den_seq ?_
     refine den_region rfl ?_
     refine o_move rfl rfl guard_none (look_tmp rfl) (fun _ => rfl) ?_
     refine o_sadd rfl rfl (look_tmp rfl) (look_str (l := [101, 110, 100, 32]) rfl (by decide)) rfl rfl (fun z18 => ?_)
     refine o_move rfl rfl guard_none (look_tmp rfl) (fun _ => rfl) ?_
     refine o_sadd rfl rfl (look_tmp rfl) (look_tmp rfl) rfl rfl (fun z19 => ?_)
     refine o_assign rfl rfl guard_none (look_tmp rfl) (fun _ => rfl) ?_
     refine o_assign rfl rfl guard_none (look_int rfl) (fun _ => rfl) ?_
     refine o_end ?_
     refine den_code_ret ?_
     refine dene_ret ?_
     exact dene_res (res2 rfl (rv_tmp rfl) (rv_tmp rfl))
    ·refine den_skip ?_
     refine den_seq ?_
     refine den_seq ?_
     refine den_region rfl ?_
     refine o_faddr field27_1 type3 (by decide) rfl rfl guard_none (look_tmp rfl) (fun _ => rfl) ?_
     refine o_oloadi 0 rfl type3 T_api_Event_foc1 rfl guard_none (look_tmp rfl) (fun _ => rfl) ?_
     refine o_eql rfl rfl guard_none (look_tmp rfl) (look_int rfl) (fun _ => rfl) (fun _ => rfl) ?_
     refine o_end ?_
     refine den_cond (look_tmp rfl) ?_ ?_
     ·refine den_seq ?_
      refine den_region rfl ?_
      refine o_move rfl rfl guard_none (look_tmp rfl) (fun _ => rfl) ?_
      refine o_sadd rfl rfl (look_tmp rfl) (look_str (l := [116, 105, 99, 107]) rfl (by decide)) rfl rfl (fun z20 => ?_)
      refine o_assign rfl rfl guard_none (look_tmp rfl) (fun _ => rfl) ?_
      refine o_assign rfl rfl guard_none (look_int rfl) (fun _ => rfl) ?_
      refine o_end ?_
      refine den_code_ret ?_
      refine dene_ret ?_
      exact dene_res (res2 rfl (rv_tmp rfl) (rv_tmp rfl))
     ·refine den_skip ?_
      refine den_seq ?_
      refine den_region rfl ?_
      refine o_faddr field27_6 type25 (by decide) rfl rfl guard_none (look_tmp rfl) (fun _ => rfl) ?_
      refine o_oloadi 0 rfl type25 T_api_Event_foc6 rfl guard_none (look_tmp rfl) (fun _ => rfl) ?_
      refine o_call rfl rfl rfl callable22 (looks_cons (look_tmp rfl) (fun _ => rfl) (looks_nil)) (ref28_value_ok _) (fun z21 => ?_)
      refine o_move rfl rfl guard_none (look_tmp rfl) (fun _ => rfl) ?_
      refine o_fst rfl rfl guard_none (look_tmp rfl) (fun _ => rfl) ?_
      refine o_snd rfl rfl guard_none (look_tmp rfl) (fun _ => rfl) ?_
      refine o_assign rfl rfl guard_none (look_tmp rfl) (fun _ => rfl) ?_
      refine o_assign rfl rfl guard_none (look_tmp rfl) (fun _ => rfl) ?_
      refine o_end ?_
      refine den_seq ?_
      refine den_seq ?_
      refine den_region rfl ?_
      refine o_move rfl rfl guard_none (look_tmp rfl) (fun _ => rfl) ?_
      refine o_not rfl rfl guard_none (look_tmp rfl) (fun _ => rfl) ?_
      refine o_end ?_
      refine den_cond (look_tmp rfl) ?_ ?_
      ·refine den_seq ?_
       refine den_region rfl ?_
       refine o_assign rfl rfl guard_none (look_str (l := []) rfl (by decide)) (fun _ => rfl) ?_
       refine o_assign rfl rfl guard_none (look_int rfl) (fun _ => rfl) ?_
       refine o_end ?_
       refine den_code_ret ?_
       refine dene_ret ?_
       exact dene_res (res2 rfl (rv_tmp rfl) (rv_tmp rfl))
      ·refine den_skip ?_
       refine den_seq ?_
       refine den_region rfl ?_
       refine o_move rfl rfl guard_none (look_tmp rfl) (fun _ => rfl) ?_
       refine o_sadd rfl rfl (look_tmp rfl) (look_str (l := [115, 101, 116, 32]) rfl (by decide)) rfl rfl (fun z22 => ?_)
       refine o_faddr field27_3 type9 (by decide) rfl rfl guard_none (look_tmp rfl) (fun _ => rfl) ?_
       refine o_oloadi 0 rfl type9 T_api_Event_foc3 rfl guard_none (look_tmp rfl) (fun _ => rfl) ?_
       refine o_sadd rfl rfl (look_tmp rfl) (look_tmp rfl) rfl rfl (fun z23 => ?_)
       refine o_sadd rfl rfl (look_tmp rfl) (look_str (l := [32]) rfl (by decide)) rfl rfl (fun z24 => ?_)
       refine o_faddr field27_5 type9 (by decide) rfl rfl guard_none (look_tmp rfl) (fun _ => rfl) ?_
       refine o_oloadi 0 rfl type9 T_api_Event_foc5 rfl guard_none (look_tmp rfl) (fun _ => rfl) ?_
       refine o_sadd rfl rfl (look_tmp rfl) (look_tmp rfl) rfl rfl (fun z25 => ?_)
       refine o_sadd rfl rfl (look_tmp rfl) (look_str (l := [32]) rfl (by decide)) rfl rfl (fun z26 => ?_)
       refine o_move rfl rfl guard_none (look_tmp rfl) (fun _ => rfl) ?_
       refine o_sadd rfl rfl (look_tmp rfl) (look_tmp rfl) rfl rfl (fun z27 => ?_)
       refine o_assign rfl rfl guard_none (look_tmp rfl) (fun _ => rfl) ?_
       refine o_assign rfl rfl guard_none (look_int rfl) (fun _ => rfl) ?_
       refine o_end ?_
       refine den_code_ret ?_
       exact dene_res (res2 rfl (rv_tmp rfl) (rv_tmp rfl))

theorem ref28_Parse_ok  (s_0 : Bytes) : FunOk Tryz.prog 8 [⟨Rep.str, s_0, true⟩] (ref28_Parse s_0) (Rep.pair (T_api_Event_rep) (Rep.bool)) := by
 refine fun_ok Tryz.func8 rfl Tryz.ntmps8 rfl (all_cons rfl all_nil) (fun w0 ok0 => ?_)
 refine den_seq ?_
 refine den_region rfl ?_
 refine o_alloc zero27 rfl rfl (fun z1 => ?_)
 refine o_assign rfl rfl guard_none look_bool (fun _ => rfl) ?_
 refine o_end ?_
 refine den_seq ?_
 refine den_region rfl ?_
 refine o_move rfl rfl guard_none (look_tmp rfl) (fun _ => rfl) ?_
 refine o_weak (H' := [] ++ ([] ++ [.obj true z1 0 (.dat T_api_Event_rep) T_api_Event_zero])) (sub_pick [0] rfl rfl) ?_
 refine o_callU rfl rfl rfl rfl rfl callable16 (looks_cons (look_tmp rfl) (fun _ => rfl) (looks_cons (look_int rfl) (fun _ => rfl) (looks_nil))) .nil (ref28_words_ok s_0 6) (fun _ _ => (wr_v wr_n)) (fun z3α z2 => ?_)
 refine o_weak (H' := [.vec z3α (Rep.str) z2, .obj true z1 0 (.dat T_api_Event_rep) T_api_Event_zero]) (sub_pick [0, 1] rfl rfl) ?_
 refine o_assign rfl rfl guard_none (look_tmp rfl) (fun _ => rfl) ?_
 refine o_end ?_
 refine den_seq ?_
 refine den_seq ?_
 refine den_region rfl ?_
 refine o_move rfl rfl guard_none (look_tmp rfl) (fun _ => rfl) ?_
 refine o_vlen 0 (.inl rfl) Tryz.underlying23 rfl guard_none (look_tmp rfl) (fun _ => rfl) ?_
 refine o_lss rfl rfl guard_none (look_tmp rfl) (look_int rfl) (fun _ => rfl) (fun _ => rfl) ?_
 refine o_end ?_
 refine den_cond (look_tmp rfl) ?_ ?_
 ·refine den_seq ?_
  refine den_region rfl ?_
  refine o_build (R := T_api_Event_rep0) (f := T_api_Event_tup) (y := (⟨0, 0, 0, [], [], [], T_api_Value_zero⟩ : T_api_Event)) shape27 rfl rfl rfl rfl guard_none (bld_zero (z_int rfl) (bld_zero (z_int rfl) (bld_zero (z_int rfl) (bld_zero (z_str rfl) (bld_zero (z_str rfl) (bld_zero (z_str rfl) (bld_zero (z_iso (z_cons (z_int rfl) (z_cons (z_int rfl) (z_cons (z_str rfl) (z_cons (z_slice rfl) z_nil0)))) rfl) (bld_nil)))))))) ?_
  refine o_weak (H' := [.obj true z1 0 (.dat T_api_Event_rep) T_api_Event_zero, .vec z3α (Rep.str) z2]) (sub_pick [1, 0] rfl rfl) ?_
  refine o_ostore type27 foc_self guard_none (look_tmp rfl) (fun _ => rfl) (look_tmp rfl) (fun _ => rfl) ?_
  refine o_assign rfl rfl guard_none look_bool (fun _ => rfl) ?_
  refine o_end ?_
  refine den_code_ret ?_
  refine dene_ret ?_
  exact dene_res (res2 rfl (rv_cell 0 type27 rfl rfl) (rv_tmp rfl))
 ·refine den_skip ?_
  refine den_seq ?_
  refine den_region rfl ?_
  refine o_move rfl rfl guard_none (look_tmp rfl) (fun _ => rfl) ?_
  refine o_vaddrh 0 (.inl rfl) Tryz.underlying23 type9 rfl (look_tmp rfl) (look_int rfl) rfl rfl (fun z5 h_z5 => ?_)
  refine o_vload (j := z5) (u := (z2.getD z5 [])) 0 (.inl rfl) type9 rfl guard_none (fun _ => at_get rfl h_z5) (look_tmp rfl) (fun _ => rfl) ?_
  refine o_call rfl rfl rfl callable17 (looks_cons (look_tmp rfl) (fun _ => rfl) (looks_nil)) (ref01_Parse_ok _) (fun z6 => ?_)
  refine o_move rfl rfl guard_none (look_tmp rfl) (fun _ => rfl) ?_
  refine o_fst rfl rfl guard_none (look_tmp rfl) (fun _ => rfl) ?_
  refine o_snd rfl rfl guard_none (look_tmp rfl) (fun _ => rfl) ?_
  refine o_assign rfl rfl guard_none (look_tmp rfl) (fun _ => rfl) ?_
  refine o_assign rfl rfl guard_none (look_tmp rfl) (fun _ => rfl) ?_
  refine o_end ?_
  refine den_seq ?_
  refine den_region rfl ?_
  refine o_move rfl rfl guard_none (look_tmp rfl) (fun _ => rfl) ?_
  refine o_build (R := T_api_Event_rep0) (f := T_api_Event_tup) (y := (⟨z6.1, 0, 0, [], [], [], T_api_Value_zero⟩ : T_api_Event)) shape27 rfl rfl rfl rfl guard_none (bld_part rfl rfl (look_tmp rfl) (fun _ => rfl) (bld_zero (z_int rfl) (bld_zero (z_int rfl) (bld_zero (z_str rfl) (bld_zero (z_str rfl) (bld_zero (z_str rfl) (bld_zero (z_iso (z_cons (z_int rfl) (z_cons (z_int rfl) (z_cons (z_str rfl) (z_cons (z_slice rfl) z_nil0)))) rfl) (bld_nil)))))))) ?_
  refine o_alloc zero27 rfl rfl (fun z7 => ?_)
  refine o_ostore type27 foc_self guard_none (look_tmp rfl) (fun _ => rfl) (look_tmp rfl) (fun _ => rfl) ?_
  refine o_end ?_
  refine den_seq ?_
  refine den_seq ?_
  refine den_region rfl ?_
  refine o_move rfl rfl guard_none (look_tmp rfl) (fun _ => rfl) ?_
  refine o_vaddrh 1 (.inl rfl) Tryz.underlying23 type9 rfl (look_tmp rfl) (look_int rfl) rfl rfl (fun z8 h_z8 => ?_)
  refine o_vload (j := z8) (u := (z2.getD z8 [])) 1 (.inl rfl) type9 rfl guard_none (fun _ => at_get rfl h_z8) (look_tmp rfl) (fun _ => rfl) ?_
  refine o_seql rfl rfl guard_none (look_tmp rfl) (look_str (l := [116, 105, 99, 107]) rfl (by decide)) (fun _ => rfl) (fun _ => rfl) ?_
  refine o_move rfl rfl guard_none (look_tmp rfl) (fun _ => rfl) ?_
  refine o_move rfl rfl (guard_some rfl rfl rfl) (look_tmp rfl) (fun _ => rfl) ?_
  refine o_vlen 1 (.inl rfl) Tryz.underlying23 rfl (guard_some rfl rfl rfl) (look_tmp rfl) (fun h => h) ?_
  refine o_eql rfl rfl (guard_some rfl rfl rfl) (look_tmp rfl) (look_int rfl) (fun h => h) (fun _ => rfl) ?_
  refine o_pick rfl rfl guard_none (look_tmp rfl) (look_tmp rfl) look_bool (fun _ => rfl) (fun h1 h2 => pick_t ((fun _ => rfl) h1) h2) (fun _ _ => rfl) ?_
  refine o_end ?_
  refine den_both (fun z9 => [(6, ⟨Rep.bool, z9.1, true⟩), (0, ⟨Rep.str, s_0, true⟩), (2, ⟨Rep.addr, (z1, 0), true⟩), (7, ⟨Rep.addr, (z7, 0), true⟩)]) (fun z9 => [.obj true z7 0 (.dat T_api_Event_rep) z9.2, .obj true z1 0 (.dat T_api_Event_rep) T_api_Event_zero]) ?_ (fun z9 => ?_)
  ·refine den_cond (look_tmp rfl) ?_ ?_
   ·refine den_region rfl ?_
    refine o_faddr field27_1 type3 (by decide) rfl rfl guard_none (look_tmp rfl) (fun _ => rfl) ?_
    refine o_ostore type3 T_api_Event_foc1 guard_none (look_tmp rfl) (fun _ => rfl) (look_int rfl) (fun _ => rfl) ?_
    refine o_lti (it := fun x => .obj true z7 0 (.dat T_api_Event_rep) x) (fun z11 => ?_)
    refine o_end ?_
    refine den_endl ((Sub.trans (sub_pick [0, 2] rfl rfl) (sub_env (sube_cons rfl (sube_cons rfl (sube_cons rfl (sube_cons rfl (sube_nil))))))))
   ·refine den_seq ?_
    refine den_region rfl ?_
    refine o_move rfl rfl guard_none (look_tmp rfl) (fun _ => rfl) ?_
    refine o_vaddrh 1 (.inl rfl) Tryz.underlying23 type9 rfl (look_tmp rfl) (look_int rfl) rfl rfl (fun z12 h_z12 => ?_)
    refine o_vload (j := z12) (u := (z2.getD z12 [])) 1 (.inl rfl) type9 rfl guard_none (fun _ => at_get rfl h_z12) (look_tmp rfl) (fun _ => rfl) ?_
    refine o_seql rfl rfl guard_none (look_tmp rfl) (look_str (l := [115, 101, 116]) rfl (by decide)) (fun _ => rfl) (fun _ => rfl) ?_
    refine o_move rfl rfl guard_none (look_tmp rfl) (fun _ => rfl) ?_
    refine o_move rfl rfl (guard_some rfl rfl rfl) (look_tmp rfl) (fun _ => rfl) ?_
    refine o_vlen 1 (.inl rfl) Tryz.underlying23 rfl (guard_some rfl rfl rfl) (look_tmp rfl) (fun h => h) ?_
    refine o_geq rfl rfl (guard_some rfl rfl rfl) (look_tmp rfl) (look_int rfl) (fun h => h) (fun _ => rfl) ?_
    refine o_pick rfl rfl guard_none (look_tmp rfl) (look_tmp rfl) look_bool (fun _ => rfl) (fun h1 h2 => pick_t ((fun _ => rfl) h1) h2) (fun _ _ => rfl) ?_
    refine o_end ?_
    refine den_cond (look_tmp rfl) ?_ ?_
    ·refine den_seq ?_
     refine den_region rfl ?_
     refine o_move rfl rfl guard_none (look_tmp rfl) (fun _ => rfl) ?_
     refine o_weak (H' := [] ++ ([] ++ [.obj true z7 0 (.dat T_api_Event_rep) (⟨z6.1, 0, 0, [], [], [], T_api_Value_zero⟩ : T_api_Event), .vec z3α (Rep.str) z2, .obj true z1 0 (.dat T_api_Event_rep) T_api_Event_zero])) (sub_pick [0, 1, 2] rfl rfl) ?_
     refine o_callU rfl rfl rfl rfl rfl callable16 (looks_cons (look_tmp rfl) (fun _ => rfl) (looks_cons (look_int rfl) (fun _ => rfl) (looks_nil))) .nil (ref28_words_ok s_0 5) (fun _ _ => (wr_v wr_n)) (fun z14α z13 => ?_)
     refine o_weak (H' := [.vec z14α (Rep.str) z13, .obj true z7 0 (.dat T_api_Event_rep) (⟨z6.1, 0, 0, [], [], [], T_api_Value_zero⟩ : T_api_Event), .vec z3α (Rep.str) z2, .obj true z1 0 (.dat T_api_Event_rep) T_api_Event_zero]) (sub_pick [0, 1, 2, 3] rfl rfl) ?_
     refine o_assign rfl rfl guard_none (look_tmp rfl) (fun _ => rfl) ?_
     refine o_end ?_
     refine den_seq ?_
     refine den_region rfl ?_
     refine o_move rfl rfl guard_none (look_tmp rfl) (fun _ => rfl) ?_
     refine o_vaddrh 0 (.inl rfl) Tryz.underlying23 type9 rfl (look_tmp rfl) (look_int rfl) rfl rfl (fun z16 h_z16 => ?_)
     refine o_vload (j := z16) (u := (z13.getD z16 [])) 0 (.inl rfl) type9 rfl guard_none (fun _ => at_get rfl h_z16) (look_tmp rfl) (fun _ => rfl) ?_
     refine o_call rfl rfl rfl callable18 (looks_cons (look_tmp rfl) (fun _ => rfl) (looks_nil)) (ref28_thing_ok _) (fun z17 => ?_)
     refine o_move rfl rfl guard_none (look_tmp rfl) (fun _ => rfl) ?_
     refine o_fst rfl rfl guard_none (look_tmp rfl) (fun _ => rfl) ?_
     refine o_snd rfl rfl guard_none (look_tmp rfl) (fun _ => rfl) ?_
     refine o_alloc zero25 rfl rfl (fun z18 => ?_)
     refine o_ostore type25 foc_self guard_none (look_tmp rfl) (fun _ => rfl) (look_tmp rfl) (fun _ => rfl) ?_
     refine o_assign rfl rfl guard_none (look_tmp rfl) (fun _ => rfl) ?_
     refine o_end ?_
     refine den_seq ?_
     refine den_region rfl ?_
     refine o_move rfl rfl guard_none (look_tmp rfl) (fun _ => rfl) ?_
     refine o_move rfl rfl guard_none (look_tmp rfl) (fun _ => rfl) ?_
     refine o_move rfl rfl (guard_some rfl rfl rfl) (look_tmp rfl) (fun _ => rfl) ?_
     refine o_pick rfl rfl guard_none (look_tmp rfl) (look_tmp rfl) look_bool (fun _ => rfl) (fun h1 h2 => pick_t ((fun _ => rfl) h1) h2) (fun _ _ => rfl) ?_
     refine o_assign rfl rfl guard_none (look_tmp rfl) (fun _ => rfl) ?_
     refine o_end ?_
     refine den_open (fun z19 h_z19 => ?_)
     refine den_open (fun z20 h_z20 => ?_)
     have hB : ∀ (S : Nat → Bool) (b9 : Bool), S 9 = b9 → ((fun S => [.obj true z18 0 (.dat T_api_Value_rep) z17.1, .vec z14α (Rep.str) z13, .obj true z7 0 (.dat T_api_Event_rep) (cond (S 9) (⟨z6.1, 4, 0, (z13.getD z19 []), [], (z13.getD z20 []), z17.1⟩ : T_api_Event) (⟨z6.1, 0, 0, [], [], [], T_api_Value_zero⟩ : T_api_Event)), .vec z3α (Rep.str) z2, .obj true z1 0 (.dat T_api_Event_rep) T_api_Event_zero] : (Nat → Bool) → List Go.Eng.Item) S) = ([.obj true z18 0 (.dat T_api_Value_rep) z17.1, .vec z14α (Rep.str) z13, .obj true z7 0 (.dat T_api_Event_rep) (cond b9 (⟨z6.1, 4, 0, (z13.getD z19 []), [], (z13.getD z20 []), z17.1⟩ : T_api_Event) (⟨z6.1, 0, 0, [], [], [], T_api_Value_zero⟩ : T_api_Event)), .vec z3α (Rep.str) z2, .obj true z1 0 (.dat T_api_Event_rep) T_api_Event_zero] : List Go.Eng.Item) := fun S b9 h9 => by subst h9; rfl
     refine den_drawH (H' := [.obj true z18 0 (.dat T_api_Value_rep) z17.1, .vec z14α (Rep.str) z13, .obj true z7 0 (.dat T_api_Event_rep) (⟨z6.1, 4, 0, (z13.getD z19 []), [], (z13.getD z20 []), z17.1⟩ : T_api_Event), .vec z3α (Rep.str) z2, .obj true z1 0 (.dat T_api_Event_rep) T_api_Event_zero]) [(62, ⟨Rep.int .i64, z6.1, true⟩), (63, ⟨Rep.val1, z14α, true⟩), (64, ⟨Rep.val1, (vptr z14α (Rep.str).size z19), true⟩), (65, ⟨Rep.str, (z13.getD z19 []), true⟩), (66, ⟨Rep.val1, z14α, true⟩), (67, ⟨Rep.val1, (vptr z14α (Rep.str).size z20), true⟩), (68, ⟨Rep.str, (z13.getD z20 []), true⟩), (69, ⟨T_api_Value_rep, z17.1, true⟩), (70, ⟨T_api_Event_rep, (⟨z6.1, 4, 0, (z13.getD z19 []), [], (z13.getD z20 []), z17.1⟩ : T_api_Event), true⟩), (166, ⟨.any, (), false⟩)] (fun S => [.obj true z18 0 (.dat T_api_Value_rep) z17.1, .vec z14α (Rep.str) z13, .obj true z7 0 (.dat T_api_Event_rep) (cond (S 9) (⟨z6.1, 4, 0, (z13.getD z19 []), [], (z13.getD z20 []), z17.1⟩ : T_api_Event) (⟨z6.1, 0, 0, [], [], [], T_api_Value_zero⟩ : T_api_Event)), .vec z3α (Rep.str) z2, .obj true z1 0 (.dat T_api_Event_rep) T_api_Event_zero]) mixed rfl rfl rfl (fun S hS => hB S true (hS 9 (by decide))) ⟨?_, ?_, ?_, ?_, ?_, ?_, ?_, ?_, ?_, ?_, trivial⟩ ?_
     ·intro S hc hk hp
      refine o_move rfl rfl guard_none (look_o rfl rfl) (fun _ => rfl) ?_
      exact h_end rfl rfl rfl (hB (fun k => S k || Nat.beq k 0) (S 9) (or_ne rfl))
     ·intro S hc hk hp
      refine o_move rfl rfl guard_none (look_o rfl rfl) (fun _ => rfl) ?_
      exact h_end rfl rfl rfl (hB (fun k => S k || Nat.beq k 1) (S 9) (or_ne rfl))
     ·intro S hc hk hp
      refine o_from (bind_eqO h_z19) ?_
      refine o_vaddr 1 (.inl rfl) Tryz.underlying23 type9 rfl (look_d rfl rfl (pr hp 0 rfl rfl)) (look_int rfl) rfl rfl (o_eqO ?_)
      exact h_end rfl rfl rfl (hB (fun k => S k || Nat.beq k 2) (S 9) (or_ne rfl))
     ·intro S hc hk hp
      refine o_vload (j := z19) (u := (z13.getD z19 [])) 1 (.inl rfl) type9 rfl guard_none (fun _ => at_get rfl h_z19) (look_d rfl rfl (pr hp 0 rfl rfl)) (fun _ => rfl) ?_
      exact h_end rfl rfl rfl (hB (fun k => S k || Nat.beq k 3) (S 9) (or_ne rfl))
     ·intro S hc hk hp
      refine o_move rfl rfl guard_none (look_o rfl rfl) (fun _ => rfl) ?_
      exact h_end rfl rfl rfl (hB (fun k => S k || Nat.beq k 4) (S 9) (or_ne rfl))
     ·intro S hc hk hp
      refine o_from (bind_eqO h_z20) ?_
      refine o_vaddr 1 (.inl rfl) Tryz.underlying23 type9 rfl (look_d rfl rfl (pr hp 0 rfl rfl)) (look_int rfl) rfl rfl (o_eqO ?_)
      exact h_end rfl rfl rfl (hB (fun k => S k || Nat.beq k 5) (S 9) (or_ne rfl))
     ·intro S hc hk hp
      refine o_vload (j := z20) (u := (z13.getD z20 [])) 1 (.inl rfl) type9 rfl guard_none (fun _ => at_get rfl h_z20) (look_d rfl rfl (pr hp 0 rfl rfl)) (fun _ => rfl) ?_
      exact h_end rfl rfl rfl (hB (fun k => S k || Nat.beq k 6) (S 9) (or_ne rfl))
     ·intro S hc hk hp
      refine o_oloadi 0 rfl type25 foc_self rfl guard_none (look_o rfl rfl) (fun _ => rfl) ?_
      exact h_end rfl rfl rfl (hB (fun k => S k || Nat.beq k 7) (S 9) (or_ne rfl))
     ·intro S hc hk hp
      refine o_build (R := T_api_Event_rep0) (f := T_api_Event_tup) (y := (⟨z6.1, 4, 0, (z13.getD z19 []), [], (z13.getD z20 []), z17.1⟩ : T_api_Event)) shape27 rfl rfl rfl rfl guard_none (bld_part rfl rfl (look_d rfl rfl (pr hp 0 rfl rfl)) (fun _ => rfl) (bld_part rfl rfl (look_int rfl) (fun _ => rfl) (bld_zero (z_int rfl) (bld_part rfl rfl (look_d rfl rfl (pr hp 1 rfl rfl)) (fun _ => rfl) (bld_zero (z_str rfl) (bld_part rfl rfl (look_d rfl rfl (pr hp 2 rfl rfl)) (fun _ => rfl) (bld_part rfl rfl (look_d rfl rfl (pr hp 3 rfl rfl)) (fun _ => rfl) (bld_nil)))))))) ?_
      exact h_end rfl rfl rfl (hB (fun k => S k || Nat.beq k 8) (S 9) (or_ne rfl))
     ·intro S hc hk hp
      refine eq_H (H' := [.obj true z18 0 (.dat T_api_Value_rep) z17.1, .vec z14α (Rep.str) z13, .obj true z7 0 (.dat T_api_Event_rep) (⟨z6.1, 0, 0, [], [], [], T_api_Value_zero⟩ : T_api_Event), .vec z3α (Rep.str) z2, .obj true z1 0 (.dat T_api_Event_rep) T_api_Event_zero]) (hB S false hk) ?_
      refine o_weak (H' := [.obj true z7 0 (.dat T_api_Event_rep) (⟨z6.1, 0, 0, [], [], [], T_api_Value_zero⟩ : T_api_Event), .obj true z18 0 (.dat T_api_Value_rep) z17.1, .vec z14α (Rep.str) z13, .vec z3α (Rep.str) z2, .obj true z1 0 (.dat T_api_Event_rep) T_api_Event_zero]) (sub_pick [2, 0, 1, 3, 4] rfl rfl) ?_
      refine o_ostore type27 foc_self guard_none (look_o rfl rfl) (fun _ => rfl) (look_d rfl rfl (pr hp 0 rfl rfl)) (fun _ => rfl) ?_
      refine o_weak (H' := [.obj true z18 0 (.dat T_api_Value_rep) z17.1, .vec z14α (Rep.str) z13, .obj true z7 0 (.dat T_api_Event_rep) (⟨z6.1, 4, 0, (z13.getD z19 []), [], (z13.getD z20 []), z17.1⟩ : T_api_Event), .vec z3α (Rep.str) z2, .obj true z1 0 (.dat T_api_Event_rep) T_api_Event_zero]) (sub_pick [1, 2, 0, 3, 4] rfl rfl) ?_
      refine h_none (n := 157) (d := 166) rfl rfl ?_
      exact h_end rfl rfl rfl (hB (fun k => S k || Nat.beq k 9) true (or_i rfl))
     refine den_endl ((Sub.trans (sub_pick [2, 4] rfl rfl) (sub_env (sube_cons rfl (sube_cons rfl (sube_cons rfl (sube_cons rfl (sube_nil))))))))
    ·refine den_seq ?_
     refine den_region rfl ?_
     refine o_move rfl rfl guard_none (look_tmp rfl) (fun _ => rfl) ?_
     refine o_vlen 1 (.inl rfl) Tryz.underlying23 rfl guard_none (look_tmp rfl) (fun _ => rfl) ?_
     refine o_gtr rfl rfl guard_none (look_tmp rfl) (look_int rfl) (fun _ => rfl) (fun _ => rfl) ?_
     refine o_end ?_
     refine den_cond (look_tmp rfl) ?_ ?_
     ·refine den_seq ?_
      refine den_region rfl ?_
      refine o_move rfl rfl guard_none (look_tmp rfl) (fun _ => rfl) ?_
      refine o_vaddrh 1 (.inl rfl) Tryz.underlying23 type9 rfl (look_tmp rfl) (look_int rfl) rfl rfl (fun z21 h_z21 => ?_)
      refine o_vload (j := z21) (u := (z2.getD z21 [])) 1 (.inl rfl) type9 rfl guard_none (fun _ => at_get rfl h_z21) (look_tmp rfl) (fun _ => rfl) ?_
      refine o_call rfl rfl rfl callable17 (looks_cons (look_tmp rfl) (fun _ => rfl) (looks_nil)) (ref01_Parse_ok _) (fun z22 => ?_)
      refine o_move rfl rfl guard_none (look_tmp rfl) (fun _ => rfl) ?_
      refine o_fst rfl rfl guard_none (look_tmp rfl) (fun _ => rfl) ?_
      refine o_snd rfl rfl guard_none (look_tmp rfl) (fun _ => rfl) ?_
      refine o_assign rfl rfl guard_none (look_tmp rfl) (fun _ => rfl) ?_
      refine o_assign rfl rfl guard_none (look_tmp rfl) (fun _ => rfl) ?_
      refine o_end ?_
      refine den_seq ?_
      refine den_region rfl ?_
      refine o_move rfl rfl guard_none (look_tmp rfl) (fun _ => rfl) ?_
      refine o_move rfl rfl guard_none (look_tmp rfl) (fun _ => rfl) ?_
      refine o_move rfl rfl (guard_some rfl rfl rfl) (look_tmp rfl) (fun _ => rfl) ?_
      refine o_pick rfl rfl guard_none (look_tmp rfl) (look_tmp rfl) look_bool (fun _ => rfl) (fun h1 h2 => pick_t ((fun _ => rfl) h1) h2) (fun _ _ => rfl) ?_
      refine o_move rfl rfl guard_none (look_tmp rfl) (fun _ => rfl) ?_
      refine o_move rfl rfl (guard_some rfl rfl rfl) (look_tmp rfl) (fun _ => rfl) ?_
      refine o_lss rfl rfl (guard_some rfl rfl rfl) (look_tmp rfl) (look_int rfl) (fun h => h) (fun _ => rfl) ?_
      refine o_pick rfl rfl guard_none (look_tmp rfl) (look_tmp rfl) look_bool (fun _ => rfl) (fun h1 h2 => pick_t ((fun _ => rfl) h1) h2) (fun _ _ => rfl) ?_
      refine o_assign rfl rfl guard_none (look_tmp rfl) (fun _ => rfl) ?_
      refine o_lt (fun ok23 => ?_)
      refine o_end ?_
      refine den_seq ?_
      refine den_seq ?_
      refine den_region rfl ?_
      refine o_move rfl rfl guard_none (look_tmp rfl) (fun _ => rfl) ?_
      refine o_not rfl rfl guard_none (look_tmp rfl) (fun _ => rfl) ?_
      refine o_end ?_
      refine den_cond (look_tmp rfl) ?_ ?_
      ·refine den_seq ?_
       refine den_region rfl ?_
       refine o_build (R := T_api_Event_rep0) (f := T_api_Event_tup) (y := (⟨0, 0, 0, [], [], [], T_api_Value_zero⟩ : T_api_Event)) shape27 rfl rfl rfl rfl guard_none (bld_zero (z_int rfl) (bld_zero (z_int rfl) (bld_zero (z_int rfl) (bld_zero (z_str rfl) (bld_zero (z_str rfl) (bld_zero (z_str rfl) (bld_zero (z_iso (z_cons (z_int rfl) (z_cons (z_int rfl) (z_cons (z_str rfl) (z_cons (z_slice rfl) z_nil0)))) rfl) (bld_nil)))))))) ?_
       refine o_weak (H' := [.obj true z1 0 (.dat T_api_Event_rep) T_api_Event_zero, .obj true z7 0 (.dat T_api_Event_rep) (⟨z6.1, 0, 0, [], [], [], T_api_Value_zero⟩ : T_api_Event), .vec z3α (Rep.str) z2]) (sub_pick [2, 0, 1] rfl rfl) ?_
       refine o_ostore type27 foc_self guard_none (look_tmp rfl) (fun _ => rfl) (look_tmp rfl) (fun _ => rfl) ?_
       refine o_assign rfl rfl guard_none look_bool (fun _ => rfl) ?_
       refine o_end ?_
       refine den_code_ret ?_
       refine dene_ret ?_
       refine dene_both (by simp) ?_
       refine dene_ret ?_
       exact dene_res (res2 rfl (rv_cell 0 type27 rfl rfl) (rv_tmp rfl))
      ·refine den_skip ?_
       refine den_seq ?_
       refine den_region rfl ?_
       refine o_move rfl rfl guard_none (look_tmp rfl) (fun _ => rfl) ?_
       refine o_faddr field27_2 type3 (by decide) rfl rfl guard_none (look_tmp rfl) (fun _ => rfl) ?_
       refine o_ostore type3 T_api_Event_foc2 guard_none (look_tmp rfl) (fun _ => rfl) (look_tmp rfl) (fun _ => rfl) ?_
       refine o_lti (it := fun x => .obj true z7 0 (.dat T_api_Event_rep) x) (fun z24 => ?_)
       refine o_end ?_
       refine den_seq ?_
       refine den_region rfl ?_
       refine o_move rfl rfl guard_none (look_tmp rfl) (fun _ => rfl) ?_
       refine o_vaddrh 1 (.inl rfl) Tryz.underlying23 type9 rfl (look_tmp rfl) (look_int rfl) rfl rfl (fun z25 h_z25 => ?_)
       refine o_vload (j := z25) (u := (z2.getD z25 [])) 1 (.inl rfl) type9 rfl guard_none (fun _ => at_get rfl h_z25) (look_tmp rfl) (fun _ => rfl) ?_
       refine o_seql rfl rfl guard_none (look_tmp rfl) (look_str (l := [101, 110, 100]) rfl (by decide)) (fun _ => rfl) (fun _ => rfl) ?_
       refine o_move rfl rfl guard_none (look_tmp rfl) (fun _ => rfl) ?_
       refine o_move rfl rfl (guard_some rfl rfl rfl) (look_tmp rfl) (fun _ => rfl) ?_
       refine o_vlen 1 (.inl rfl) Tryz.underlying23 rfl (guard_some rfl rfl rfl) (look_tmp rfl) (fun h => h) ?_
       refine o_eql rfl rfl (guard_some rfl rfl rfl) (look_tmp rfl) (look_int rfl) (fun h => h) (fun _ => rfl) ?_
       refine o_pick rfl rfl guard_none (look_tmp rfl) (look_tmp rfl) look_bool (fun _ => rfl) (fun h1 h2 => pick_t ((fun _ => rfl) h1) h2) (fun _ _ => rfl) ?_
       refine o_end ?_
       refine den_cond (look_tmp rfl) ?_ ?_
       ·refine den_region rfl ?_
        refine o_faddr field27_1 type3 (by decide) rfl rfl guard_none (look_tmp rfl) (fun _ => rfl) ?_
        refine o_ostore type3 T_api_Event_foc1 guard_none (look_tmp rfl) (fun _ => rfl) (look_int rfl) (fun _ => rfl) ?_
        refine o_end ?_
        refine den_endl ((Sub.trans (sub_pick [0, 2] rfl rfl) (sub_env (sube_cons rfl (sube_cons rfl (sube_cons rfl (sube_cons rfl (sube_nil))))))))
       ·refine den_seq ?_
        refine den_region rfl ?_
        refine o_move rfl rfl guard_none (look_tmp rfl) (fun _ => rfl) ?_
        refine o_vaddrh 1 (.inl rfl) Tryz.underlying23 type9 rfl (look_tmp rfl) (look_int rfl) rfl rfl (fun z26 h_z26 => ?_)
        refine o_vload (j := z26) (u := (z2.getD z26 [])) 1 (.inl rfl) type9 rfl guard_none (fun _ => at_get rfl h_z26) (look_tmp rfl) (fun _ => rfl) ?_
        refine o_seql rfl rfl guard_none (look_tmp rfl) (look_str (l := [117, 115, 101]) rfl (by decide)) (fun _ => rfl) (fun _ => rfl) ?_
        refine o_move rfl rfl guard_none (look_tmp rfl) (fun _ => rfl) ?_
        refine o_move rfl rfl (guard_some rfl rfl rfl) (look_tmp rfl) (fun _ => rfl) ?_
        refine o_vlen 1 (.inl rfl) Tryz.underlying23 rfl (guard_some rfl rfl rfl) (look_tmp rfl) (fun h => h) ?_
        refine o_eql rfl rfl (guard_some rfl rfl rfl) (look_tmp rfl) (look_int rfl) (fun h => h) (fun _ => rfl) ?_
        refine o_pick rfl rfl guard_none (look_tmp rfl) (look_tmp rfl) look_bool (fun _ => rfl) (fun h1 h2 => pick_t ((fun _ => rfl) h1) h2) (fun _ _ => rfl) ?_
        refine o_end ?_
        refine den_cond (look_tmp rfl) ?_ ?_
        ·refine den_seq ?_
         refine den_region rfl ?_
         refine o_faddr field27_1 type3 (by decide) rfl rfl guard_none (look_tmp rfl) (fun _ => rfl) ?_
         refine o_ostore type3 T_api_Event_foc1 guard_none (look_tmp rfl) (fun _ => rfl) (look_int rfl) (fun _ => rfl) ?_
         refine o_end ?_
         refine den_region rfl ?_
         refine o_move rfl rfl guard_none (look_tmp rfl) (fun _ => rfl) ?_
         refine o_vaddrh 1 (.inl rfl) Tryz.underlying23 type9 rfl (look_tmp rfl) (look_int rfl) rfl rfl (fun z27 h_z27 => ?_)
         refine o_vload (j := z27) (u := (z2.getD z27 [])) 1 (.inl rfl) type9 rfl guard_none (fun _ => at_get rfl h_z27) (look_tmp rfl) (fun _ => rfl) ?_
         refine o_faddr field27_5 type9 (by decide) rfl rfl guard_none (look_tmp rfl) (fun _ => rfl) ?_
         refine o_ostore type9 T_api_Event_foc5 guard_none (look_tmp rfl) (fun _ => rfl) (look_tmp rfl) (fun _ => rfl) ?_
         refine o_end ?_
         refine den_endl ((Sub.trans (sub_pick [0, 2] rfl rfl) (sub_env (sube_cons rfl (sube_cons rfl (sube_cons rfl (sube_cons rfl (sube_nil))))))))
        ·refine den_seq ?_
         refine den_region rfl ?_
         refine o_move rfl rfl guard_none (look_tmp rfl) (fun _ => rfl) ?_
         refine o_vaddrh 1 (.inl rfl) Tryz.underlying23 type9 rfl (look_tmp rfl) (look_int rfl) rfl rfl (fun z28 h_z28 => ?_)
         refine o_vload (j := z28) (u := (z2.getD z28 [])) 1 (.inl rfl) type9 rfl guard_none (fun _ => at_get rfl h_z28) (look_tmp rfl) (fun _ => rfl) ?_
         refine o_seql rfl rfl guard_none (look_tmp rfl) (look_str (l := [116, 114, 121]) rfl (by decide)) (fun _ => rfl) (fun _ => rfl) ?_
         refine o_move rfl rfl guard_none (look_tmp rfl) (fun _ => rfl) ?_
         refine o_move rfl rfl (guard_some rfl rfl rfl) (look_tmp rfl) (fun _ => rfl) ?_
         refine o_vlen 1 (.inl rfl) Tryz.underlying23 rfl (guard_some rfl rfl rfl) (look_tmp rfl) (fun h => h) ?_
         refine o_eql rfl rfl (guard_some rfl rfl rfl) (look_tmp rfl) (look_int rfl) (fun h => h) (fun _ => rfl) ?_
         refine o_pick rfl rfl guard_none (look_tmp rfl) (look_tmp rfl) look_bool (fun _ => rfl) (fun h1 h2 => pick_t ((fun _ => rfl) h1) h2) (fun _ _ => rfl) ?_
         refine o_end ?_
         refine den_cond (look_tmp rfl) ?_ ?_
         ·refine den_open (fun z29 h_z29 => ?_)
          refine den_open (fun z30 h_z30 => ?_)
          refine den_open (fun z31 h_z31 => ?_)
          have hB : ∀ (S : Nat → Bool) (b12 : Bool), S 12 = b12 → ((fun S => [.obj true z7 0 (.dat T_api_Event_rep) (cond (S 12) (⟨z6.1, 1, z22.1, (z2.getD z29 []), (z2.getD z30 []), (z2.getD z31 []), T_api_Value_zero⟩ : T_api_Event) z24), .vec z3α (Rep.str) z2, .obj true z1 0 (.dat T_api_Event_rep) T_api_Event_zero] : (Nat → Bool) → List Go.Eng.Item) S) = ([.obj true z7 0 (.dat T_api_Event_rep) (cond b12 (⟨z6.1, 1, z22.1, (z2.getD z29 []), (z2.getD z30 []), (z2.getD z31 []), T_api_Value_zero⟩ : T_api_Event) z24), .vec z3α (Rep.str) z2, .obj true z1 0 (.dat T_api_Event_rep) T_api_Event_zero] : List Go.Eng.Item) := fun S b12 h12 => by subst h12; rfl
          refine den_drawH (H' := [.obj true z7 0 (.dat T_api_Event_rep) (⟨z6.1, 1, z22.1, (z2.getD z29 []), (z2.getD z30 []), (z2.getD z31 []), T_api_Value_zero⟩ : T_api_Event), .vec z3α (Rep.str) z2, .obj true z1 0 (.dat T_api_Event_rep) T_api_Event_zero]) [(127, ⟨Rep.int .i64, z6.1, true⟩), (128, ⟨Rep.int .i64, z22.1, true⟩), (129, ⟨Rep.val1, z3α, true⟩), (130, ⟨Rep.val1, (vptr z3α (Rep.str).size z29), true⟩), (131, ⟨Rep.str, (z2.getD z29 []), true⟩), (132, ⟨Rep.val1, z3α, true⟩), (133, ⟨Rep.val1, (vptr z3α (Rep.str).size z30), true⟩), (134, ⟨Rep.str, (z2.getD z30 []), true⟩), (135, ⟨Rep.val1, z3α, true⟩), (136, ⟨Rep.val1, (vptr z3α (Rep.str).size z31), true⟩), (137, ⟨Rep.str, (z2.getD z31 []), true⟩), (138, ⟨T_api_Event_rep, (⟨z6.1, 1, z22.1, (z2.getD z29 []), (z2.getD z30 []), (z2.getD z31 []), T_api_Value_zero⟩ : T_api_Event), true⟩), (169, ⟨.any, (), false⟩)] (fun S => [.obj true z7 0 (.dat T_api_Event_rep) (cond (S 12) (⟨z6.1, 1, z22.1, (z2.getD z29 []), (z2.getD z30 []), (z2.getD z31 []), T_api_Value_zero⟩ : T_api_Event) z24), .vec z3α (Rep.str) z2, .obj true z1 0 (.dat T_api_Event_rep) T_api_Event_zero]) mixed rfl rfl rfl (fun S hS => hB S true (hS 12 (by decide))) ⟨?_, ?_, ?_, ?_, ?_, ?_, ?_, ?_, ?_, ?_, ?_, ?_, ?_, trivial⟩ ?_
          ·intro S hc hk hp
           refine o_move rfl rfl guard_none (look_o rfl rfl) (fun _ => rfl) ?_
           exact h_end rfl rfl rfl (hB (fun k => S k || Nat.beq k 0) (S 12) (or_ne rfl))
          ·intro S hc hk hp
           refine o_move rfl rfl guard_none (look_o rfl rfl) (fun _ => rfl) ?_
           exact h_end rfl rfl rfl (hB (fun k => S k || Nat.beq k 1) (S 12) (or_ne rfl))
          ·intro S hc hk hp
           refine o_move rfl rfl guard_none (look_o rfl rfl) (fun _ => rfl) ?_
           exact h_end rfl rfl rfl (hB (fun k => S k || Nat.beq k 2) (S 12) (or_ne rfl))
          ·intro S hc hk hp
           refine o_from (bind_eqO h_z29) ?_
           refine o_vaddr 1 (.inl rfl) Tryz.underlying23 type9 rfl (look_d rfl rfl (pr hp 0 rfl rfl)) (look_int rfl) rfl rfl (o_eqO ?_)
           exact h_end rfl rfl rfl (hB (fun k => S k || Nat.beq k 3) (S 12) (or_ne rfl))
          ·intro S hc hk hp
           refine o_vload (j := z29) (u := (z2.getD z29 [])) 1 (.inl rfl) type9 rfl guard_none (fun _ => at_get rfl h_z29) (look_d rfl rfl (pr hp 0 rfl rfl)) (fun _ => rfl) ?_
           exact h_end rfl rfl rfl (hB (fun k => S k || Nat.beq k 4) (S 12) (or_ne rfl))
          ·intro S hc hk hp
           refine o_move rfl rfl guard_none (look_o rfl rfl) (fun _ => rfl) ?_
           exact h_end rfl rfl rfl (hB (fun k => S k || Nat.beq k 5) (S 12) (or_ne rfl))
          ·intro S hc hk hp
           refine o_from (bind_eqO h_z30) ?_
           refine o_vaddr 1 (.inl rfl) Tryz.underlying23 type9 rfl (look_d rfl rfl (pr hp 0 rfl rfl)) (look_int rfl) rfl rfl (o_eqO ?_)
           exact h_end rfl rfl rfl (hB (fun k => S k || Nat.beq k 6) (S 12) (or_ne rfl))
          ·intro S hc hk hp
           refine o_vload (j := z30) (u := (z2.getD z30 [])) 1 (.inl rfl) type9 rfl guard_none (fun _ => at_get rfl h_z30) (look_d rfl rfl (pr hp 0 rfl rfl)) (fun _ => rfl) ?_
           exact h_end rfl rfl rfl (hB (fun k => S k || Nat.beq k 7) (S 12) (or_ne rfl))
          ·intro S hc hk hp
           refine o_move rfl rfl guard_none (look_o rfl rfl) (fun _ => rfl) ?_
           exact h_end rfl rfl rfl (hB (fun k => S k || Nat.beq k 8) (S 12) (or_ne rfl))
          ·intro S hc hk hp
           refine o_from (bind_eqO h_z31) ?_
           refine o_vaddr 1 (.inl rfl) Tryz.underlying23 type9 rfl (look_d rfl rfl (pr hp 0 rfl rfl)) (look_int rfl) rfl rfl (o_eqO ?_)
           exact h_end rfl rfl rfl (hB (fun k => S k || Nat.beq k 9) (S 12) (or_ne rfl))
          ·intro S hc hk hp
           refine o_vload (j := z31) (u := (z2.getD z31 [])) 1 (.inl rfl) type9 rfl guard_none (fun _ => at_get rfl h_z31) (look_d rfl rfl (pr hp 0 rfl rfl)) (fun _ => rfl) ?_
           exact h_end rfl rfl rfl (hB (fun k => S k || Nat.beq k 10) (S 12) (or_ne rfl))
          ·intro S hc hk hp
           refine o_build (R := T_api_Event_rep0) (f := T_api_Event_tup) (y := (⟨z6.1, 1, z22.1, (z2.getD z29 []), (z2.getD z30 []), (z2.getD z31 []), T_api_Value_zero⟩ : T_api_Event)) shape27 rfl rfl rfl rfl guard_none (bld_part rfl rfl (look_d rfl rfl (pr hp 0 rfl rfl)) (fun _ => rfl) (bld_part rfl rfl (look_int rfl) (fun _ => rfl) (bld_part rfl rfl (look_d rfl rfl (pr hp 1 rfl rfl)) (fun _ => rfl) (bld_part rfl rfl (look_d rfl rfl (pr hp 2 rfl rfl)) (fun _ => rfl) (bld_part rfl rfl (look_d rfl rfl (pr hp 3 rfl rfl)) (fun _ => rfl) (bld_part rfl rfl (look_d rfl rfl (pr hp 4 rfl rfl)) (fun _ => rfl) (bld_zero (z_iso (z_cons (z_int rfl) (z_cons (z_int rfl) (z_cons (z_str rfl) (z_cons (z_slice rfl) z_nil0)))) rfl) (bld_nil)))))))) ?_
           exact h_end rfl rfl rfl (hB (fun k => S k || Nat.beq k 11) (S 12) (or_ne rfl))
          ·intro S hc hk hp
           refine eq_H (H' := [.obj true z7 0 (.dat T_api_Event_rep) z24, .vec z3α (Rep.str) z2, .obj true z1 0 (.dat T_api_Event_rep) T_api_Event_zero]) (hB S false hk) ?_
           refine o_ostore type27 foc_self guard_none (look_o rfl rfl) (fun _ => rfl) (look_d rfl rfl (pr hp 0 rfl rfl)) (fun _ => rfl) ?_
           refine o_weak (H' := [.obj true z7 0 (.dat T_api_Event_rep) (⟨z6.1, 1, z22.1, (z2.getD z29 []), (z2.getD z30 []), (z2.getD z31 []), T_api_Value_zero⟩ : T_api_Event), .vec z3α (Rep.str) z2, .obj true z1 0 (.dat T_api_Event_rep) T_api_Event_zero]) (sub_pick [0, 1, 2] rfl rfl) ?_
           refine h_none (n := 157) (d := 169) rfl rfl ?_
           exact h_end rfl rfl rfl (hB (fun k => S k || Nat.beq k 12) true (or_i rfl))
          refine den_endl ((Sub.trans (sub_pick [0, 2] rfl rfl) (sub_env (sube_cons rfl (sube_cons rfl (sube_cons rfl (sube_cons rfl (sube_nil))))))))
         ·refine den_skip ?_
          refine den_endl ((Sub.trans (sub_pick [0, 2] rfl rfl) (sub_env (sube_cons rfl (sube_cons rfl (sube_cons rfl (sube_cons rfl (sube_nil))))))))
     ·refine den_skip ?_
      refine den_endl ((Sub.trans (sub_pick [0, 2] rfl rfl) (sub_env (sube_cons rfl (sube_cons rfl (sube_cons rfl (sube_cons rfl (sube_nil))))))))
  refine den_seq ?_
  refine den_region rfl ?_
  refine o_oloadi 0 rfl type27 foc_self rfl guard_none (look_tmp rfl) (fun _ => rfl) ?_
  refine o_call rfl rfl rfl callable10 (looks_cons (look_tmp rfl) (fun _ => rfl) (looks_nil)) (ref28_Line_ok _) (fun z10 => ?_)
  refine o_move rfl rfl guard_none (look_tmp rfl) (fun _ => rfl) ?_
  refine o_fst rfl rfl guard_none (look_tmp rfl) (fun _ => rfl) ?_
  refine o_snd rfl rfl guard_none (look_tmp rfl) (fun _ => rfl) ?_
  refine o_assign rfl rfl guard_none (look_tmp rfl) (fun _ => rfl) ?_
  refine o_assign rfl rfl guard_none (look_tmp rfl) (fun _ => rfl) ?_
  refine o_end ?_
  refine den_seq ?_
  refine den_seq ?_
  refine den_region rfl ?_
  refine o_move rfl rfl guard_none (look_tmp rfl) (fun _ => rfl) ?_
  refine o_not rfl rfl guard_none (look_tmp rfl) (fun _ => rfl) ?_
  refine o_move rfl rfl guard_none (look_tmp rfl) (fun _ => rfl) ?_
  refine o_move rfl rfl (guard_some rfl rfl rfl) (look_tmp rfl) (fun _ => rfl) ?_
  refine o_neq rfl rfl (guard_some rfl rfl rfl) (look_tmp rfl) (look_int rfl) (fun h => h) (fun _ => rfl) ?_
  refine o_pick rfl rfl guard_none (look_tmp rfl) look_bool (look_tmp rfl) (fun _ => rfl) (fun _ _ => rfl) (fun h1 h2 => pick_f ((fun _ => rfl) h1) h2) ?_
  refine o_move rfl rfl guard_none (look_tmp rfl) (fun _ => rfl) ?_
  refine o_move rfl rfl (guard_some rfl rfl rfl) (look_tmp rfl) (fun _ => rfl) ?_
  refine o_move rfl rfl (guard_some rfl rfl rfl) (look_tmp rfl) (fun _ => rfl) ?_
  refine o_sneq rfl rfl (guard_some rfl rfl rfl) (look_tmp rfl) (look_tmp rfl) (fun h => h) (fun h => h) ?_
  refine o_pick rfl rfl guard_none (look_tmp rfl) look_bool (look_tmp rfl) (fun _ => rfl) (fun _ _ => rfl) (fun h1 h2 => pick_f ((fun _ => rfl) h1) h2) ?_
  refine o_end ?_
  refine den_cond (look_tmp rfl) ?_ ?_
  ·refine den_seq ?_
   refine den_region rfl ?_
   refine o_build (R := T_api_Event_rep0) (f := T_api_Event_tup) (y := (⟨0, 0, 0, [], [], [], T_api_Value_zero⟩ : T_api_Event)) shape27 rfl rfl rfl rfl guard_none (bld_zero (z_int rfl) (bld_zero (z_int rfl) (bld_zero (z_int rfl) (bld_zero (z_str rfl) (bld_zero (z_str rfl) (bld_zero (z_str rfl) (bld_zero (z_iso (z_cons (z_int rfl) (z_cons (z_int rfl) (z_cons (z_str rfl) (z_cons (z_slice rfl) z_nil0)))) rfl) (bld_nil)))))))) ?_
   refine o_weak (H' := [.obj true z1 0 (.dat T_api_Event_rep) T_api_Event_zero, .obj true z7 0 (.dat T_api_Event_rep) z9.2]) (sub_pick [1, 0] rfl rfl) ?_
   refine o_ostore type27 foc_self guard_none (look_tmp rfl) (fun _ => rfl) (look_tmp rfl) (fun _ => rfl) ?_
   refine o_assign rfl rfl guard_none look_bool (fun _ => rfl) ?_
   refine o_end ?_
   refine den_code_ret ?_
   refine dene_ret ?_
   exact dene_res (res2 rfl (rv_cell 0 type27 rfl rfl) (rv_tmp rfl))
  ·refine den_skip ?_
   refine den_seq ?_
   refine den_region rfl ?_
   refine o_oloadi 0 rfl type27 foc_self rfl guard_none (look_tmp rfl) (fun _ => rfl) ?_
   refine o_weak (H' := [.obj true z1 0 (.dat T_api_Event_rep) T_api_Event_zero, .obj true z7 0 (.dat T_api_Event_rep) z9.2]) (sub_pick [1, 0] rfl rfl) ?_
   refine o_ostore type27 foc_self guard_none (look_tmp rfl) (fun _ => rfl) (look_tmp rfl) (fun _ => rfl) ?_
   refine o_assign rfl rfl guard_none look_bool (fun _ => rfl) ?_
   refine o_end ?_
   refine den_code_ret ?_
   exact dene_res (res2 rfl (rv_cell 0 type27 rfl rfl) (rv_tmp rfl))

theorem plain_Texts_ok  (a_0 : (List Bytes)) (b_1 : (List Bytes)) : FunOk Tryz.prog 37 [⟨(Rep.str).slice, a_0, true⟩, ⟨(Rep.str).slice, b_1, true⟩] (plain_Texts a_0 b_1) (Rep.bool) := by
 refine fun_ok Tryz.func37 rfl Tryz.ntmps37 rfl (all_cons rfl (all_cons rfl all_nil)) (fun w0 ok0 => ?_)
 refine den_seq ?_
 refine den_region rfl ?_
 refine o_assign rfl rfl guard_none look_bool (fun _ => rfl) ?_
 refine o_end ?_
 refine den_seq ?_
 refine den_seq ?_
 refine den_region rfl ?_
 refine o_move rfl rfl guard_none (look_tmp rfl) (fun _ => rfl) ?_
 refine o_llen Tryz.underlying23 rfl rfl guard_none (look_tmp rfl) (fun _ => rfl) ?_
 refine o_move rfl rfl guard_none (look_tmp rfl) (fun _ => rfl) ?_
 refine o_llen Tryz.underlying23 rfl rfl guard_none (look_tmp rfl) (fun _ => rfl) ?_
 refine o_neq rfl rfl guard_none (look_tmp rfl) (look_tmp rfl) (fun _ => rfl) (fun _ => rfl) ?_
 refine o_end ?_
 refine den_cond (look_tmp rfl) ?_ ?_
 ·refine den_seq ?_
  refine den_region rfl ?_
  refine o_assign rfl rfl guard_none look_bool (fun _ => rfl) ?_
  refine o_end ?_
  refine den_code_ret ?_
  refine dene_ret ?_
  exact dene_res (res1 rfl (rv_tmp rfl))
 ·refine den_skip ?_
  refine den_seq ?_
  refine den_seq ?_
  refine den_region rfl ?_
  refine o_assign rfl rfl guard_none (look_int rfl) (fun _ => rfl) ?_
  refine o_end ?_
  refine den_both (fun z1 => []) (fun z1 => []) ?_ (fun z1 => ?_)
  ·refine den_block ?_
   refine den_loop (plain_Texts_L1b a_0 b_1) (fun z2 => [(5, ⟨Rep.int .i64, z2, true⟩), (0, ⟨(Rep.str).slice, a_0, true⟩), (1, ⟨(Rep.str).slice, b_1, true⟩)]) (fun z2 => []) 0 (fun z2 => ?_) ((sub_env (sube_cons rfl (sube_cons rfl (sube_cons rfl (sube_nil))))))
   refine den_seq ?_
   refine den_seq ?_
   refine den_region rfl ?_
   refine o_move rfl rfl guard_none (look_tmp rfl) (fun _ => rfl) ?_
   refine o_move rfl rfl guard_none (look_tmp rfl) (fun _ => rfl) ?_
   refine o_llen Tryz.underlying23 rfl rfl guard_none (look_tmp rfl) (fun _ => rfl) ?_
   refine o_lss rfl rfl guard_none (look_tmp rfl) (look_tmp rfl) (fun _ => rfl) (fun _ => rfl) ?_
   refine o_end ?_
   refine den_cond (look_tmp rfl) ?_ ?_
   ·refine den_skip ?_
    refine den_seq ?_
    refine den_block ?_
    refine den_seq ?_
    refine den_open (fun z3 h_z3 => ?_)
    refine den_open (fun z4 h_z4 => ?_)
    refine den_draw [(17, ⟨(Rep.str).slice, a_0, true⟩), (18, ⟨Rep.int .i64, z2, true⟩), (19, ⟨(Rep.str).ptrTo, z3, true⟩), (20, ⟨Rep.str, z3, true⟩), (21, ⟨(Rep.str).slice, b_1, true⟩), (22, ⟨Rep.int .i64, z2, true⟩), (23, ⟨(Rep.str).ptrTo, z4, true⟩), (24, ⟨Rep.str, z4, true⟩), (25, ⟨Rep.bool, z3 != z4, true⟩)] mixed rfl rfl ⟨?_, ?_, ?_, ?_, ?_, ?_, ?_, ?_, ?_, trivial⟩ ?_
    ·intro S hc hk hp
     refine o_move rfl rfl guard_none (look_o rfl rfl) (fun _ => rfl) ?_
     exact d_end rfl rfl rfl
    ·intro S hc hk hp
     refine o_move rfl rfl guard_none (look_o rfl rfl) (fun _ => rfl) ?_
     exact d_end rfl rfl rfl
    ·intro S hc hk hp
     refine o_from (bind_eqO h_z3) ?_
     refine o_iaddr Tryz.underlying23 type9 rfl rfl (look_d rfl rfl (pr hp 0 rfl rfl)) (look_d rfl rfl (pr hp 1 rfl rfl)) rfl rfl (o_eqO ?_)
     exact d_end rfl rfl rfl
    ·intro S hc hk hp
     refine o_load type9 rfl rfl guard_none (look_d rfl rfl (pr hp 0 rfl rfl)) (fun _ => rfl) ?_
     exact d_end rfl rfl rfl
    ·intro S hc hk hp
     refine o_move rfl rfl guard_none (look_o rfl rfl) (fun _ => rfl) ?_
     exact d_end rfl rfl rfl
    ·intro S hc hk hp
     refine o_move rfl rfl guard_none (look_o rfl rfl) (fun _ => rfl) ?_
     exact d_end rfl rfl rfl
    ·intro S hc hk hp
     refine o_from (bind_eqO h_z4) ?_
     refine o_iaddr Tryz.underlying23 type9 rfl rfl (look_d rfl rfl (pr hp 0 rfl rfl)) (look_d rfl rfl (pr hp 1 rfl rfl)) rfl rfl (o_eqO ?_)
     exact d_end rfl rfl rfl
    ·intro S hc hk hp
     refine o_load type9 rfl rfl guard_none (look_d rfl rfl (pr hp 0 rfl rfl)) (fun _ => rfl) ?_
     exact d_end rfl rfl rfl
    ·intro S hc hk hp
     refine o_sneq rfl rfl guard_none (look_d rfl rfl (pr hp 0 rfl rfl)) (look_d rfl rfl (pr hp 1 rfl rfl)) (fun _ => rfl) (fun _ => rfl) ?_
     exact d_end rfl rfl rfl
    refine den_cond (look_tmp rfl) ?_ ?_
    ·refine den_seq ?_
     refine den_region rfl ?_
     refine o_assign rfl rfl guard_none look_bool (fun _ => rfl) ?_
     refine o_end ?_
     refine den_code_ret ?_
     refine dene_ret ?_
     refine dene_loop (by simp) ?_
     refine dene_ret ?_
     refine dene_both (by simp) ?_
     refine dene_ret ?_
     exact dene_res (res1 rfl (rv_tmp rfl))
    ·refine den_skip ?_
     refine den_blkend ?_
     refine den_region rfl ?_
     refine o_move rfl rfl guard_none (look_tmp rfl) (fun _ => rfl) ?_
     refine o_add rfl rfl guard_none (look_tmp rfl) (look_int rfl) (fun _ => rfl) (fun _ => rfl) ?_
     refine o_assign rfl rfl guard_none (look_tmp rfl) (fun _ => rfl) ?_
     refine o_end ?_
     refine den_next ((sub_env (sube_cons rfl (sube_cons rfl (sube_cons rfl (sube_nil))))))
   ·refine den_code_exit ?_
    refine dene_out rfl ?_
    refine dene_loop (by simp) ?_
    refine dene_to rfl ?_
    refine den_endl ((sub_env (sube_nil)))
  refine den_seq ?_
  refine den_region rfl ?_
  refine o_assign rfl rfl guard_none look_bool (fun _ => rfl) ?_
  refine o_end ?_
  refine den_code_ret ?_
  exact dene_res (res1 rfl (rv_tmp rfl))

theorem plain_Value_ok  (a_0 : T_api_Value) (b_1 : T_api_Value) : FunOk Tryz.prog 19 [⟨T_api_Value_rep, a_0, true⟩, ⟨T_api_Value_rep, b_1, true⟩] (plain_Value a_0 b_1) (Rep.bool) := by
 refine fun_ok Tryz.func19 rfl Tryz.ntmps19 rfl (all_cons rfl (all_cons rfl all_nil)) (fun w0 ok0 => ?_)
 refine den_seq ?_
 refine den_region rfl ?_
 refine o_box rfl rfl (look_tmp rfl) rfl (fun z1 => ?_)
 refine o_box rfl rfl (look_tmp rfl) rfl (fun z2 => ?_)
 refine o_assign rfl rfl guard_none look_bool (fun _ => rfl) ?_
 refine o_end ?_
 refine den_seq ?_
 refine den_region rfl ?_
 refine o_faddr field25_0 type3 (by decide) rfl rfl guard_none (look_tmp rfl) (fun _ => rfl) ?_
 refine o_oloadi 1 rfl type3 T_api_Value_foc0 rfl guard_none (look_tmp rfl) (fun _ => rfl) ?_
 refine o_faddr field25_0 type3 (by decide) rfl rfl guard_none (look_tmp rfl) (fun _ => rfl) ?_
 refine o_oloadi 0 rfl type3 T_api_Value_foc0 rfl guard_none (look_tmp rfl) (fun _ => rfl) ?_
 refine o_eql rfl rfl guard_none (look_tmp rfl) (look_tmp rfl) (fun _ => rfl) (fun _ => rfl) ?_
 refine o_move rfl rfl guard_none (look_tmp rfl) (fun _ => rfl) ?_
 refine o_faddr field25_1 type2 (by decide) rfl rfl (guard_some rfl rfl rfl) (look_tmp rfl) (fun _ => rfl) ?_
 refine o_oloadi 1 rfl type2 T_api_Value_foc1 rfl (guard_some rfl rfl rfl) (look_tmp rfl) (fun h => h) ?_
 refine o_faddr field25_1 type2 (by decide) rfl rfl (guard_some rfl rfl rfl) (look_tmp rfl) (fun _ => rfl) ?_
 refine o_oloadi 0 rfl type2 T_api_Value_foc1 rfl (guard_some rfl rfl rfl) (look_tmp rfl) (fun h => h) ?_
 refine o_eql rfl rfl (guard_some rfl rfl rfl) (look_tmp rfl) (look_tmp rfl) (fun h => h) (fun h => h) ?_
 refine o_pick rfl rfl guard_none (look_tmp rfl) (look_tmp rfl) look_bool (fun _ => rfl) (fun h1 h2 => pick_t ((fun _ => rfl) h1) h2) (fun _ _ => rfl) ?_
 refine o_move rfl rfl guard_none (look_tmp rfl) (fun _ => rfl) ?_
 refine o_faddr field25_2 type9 (by decide) rfl rfl (guard_some rfl rfl rfl) (look_tmp rfl) (fun _ => rfl) ?_
 refine o_oloadi 1 rfl type9 T_api_Value_foc2 rfl (guard_some rfl rfl rfl) (look_tmp rfl) (fun h => h) ?_
 refine o_faddr field25_2 type9 (by decide) rfl rfl (guard_some rfl rfl rfl) (look_tmp rfl) (fun _ => rfl) ?_
 refine o_oloadi 0 rfl type9 T_api_Value_foc2 rfl (guard_some rfl rfl rfl) (look_tmp rfl) (fun h => h) ?_
 refine o_seql rfl rfl (guard_some rfl rfl rfl) (look_tmp rfl) (look_tmp rfl) (fun h => h) (fun h => h) ?_
 refine o_pick rfl rfl guard_none (look_tmp rfl) (look_tmp rfl) look_bool (fun _ => rfl) (fun h1 h2 => pick_t ((fun _ => rfl) h1) h2) (fun _ _ => rfl) ?_
 refine o_move rfl rfl guard_none (look_tmp rfl) (fun _ => rfl) ?_
 refine o_faddr field25_3 type23 (by decide) rfl rfl (guard_some rfl rfl rfl) (look_tmp rfl) (fun _ => rfl) ?_
 refine o_oloadi 1 rfl type23 T_api_Value_foc3 rfl (guard_some rfl rfl rfl) (look_tmp rfl) (fun h => h) ?_
 refine o_faddr field25_3 type23 (by decide) rfl rfl (guard_some rfl rfl rfl) (look_tmp rfl) (fun _ => rfl) ?_
 refine o_oloadi 0 rfl type23 T_api_Value_foc3 rfl (guard_some rfl rfl rfl) (look_tmp rfl) (fun h => h) ?_
 refine o_callg rfl rfl rfl (guard_some rfl rfl rfl) callable37 (looks_cons (look_tmp rfl) (fun h => h) (looks_cons (look_tmp rfl) (fun h => h) (looks_nil))) (plain_Texts_ok _ _) (fun z3 => ?_)
 refine o_pick rfl rfl guard_none (look_tmp rfl) (look_tmp rfl) look_bool (fun _ => rfl) (fun h1 h2 => pick_t ((fun _ => rfl) h1) h2) (fun _ _ => rfl) ?_
 refine o_assign rfl rfl guard_none (look_tmp rfl) (fun _ => rfl) ?_
 refine o_lt (fun z4 => ?_)
 refine o_end ?_
 refine den_code_ret ?_
 exact dene_res (res1 rfl (rv_tmp rfl))

theorem plain_Event_ok  (a_0 : T_api_Event) (b_1 : T_api_Event) : FunOk Tryz.prog 9 [⟨T_api_Event_rep, a_0, true⟩, ⟨T_api_Event_rep, b_1, true⟩] (plain_Event a_0 b_1) (Rep.bool) := by
 refine fun_ok Tryz.func9 rfl Tryz.ntmps9 rfl (all_cons rfl (all_cons rfl all_nil)) (fun w0 ok0 => ?_)
 refine den_seq ?_
 refine den_region rfl ?_
 refine o_box rfl rfl (look_tmp rfl) rfl (fun z1 => ?_)
 refine o_box rfl rfl (look_tmp rfl) rfl (fun z2 => ?_)
 refine o_assign rfl rfl guard_none look_bool (fun _ => rfl) ?_
 refine o_end ?_
 refine den_seq ?_
 refine den_region rfl ?_
 refine o_faddr field27_0 type2 (by decide) rfl rfl guard_none (look_tmp rfl) (fun _ => rfl) ?_
 refine o_oloadi 1 rfl type2 T_api_Event_foc0 rfl guard_none (look_tmp rfl) (fun _ => rfl) ?_
 refine o_faddr field27_0 type2 (by decide) rfl rfl guard_none (look_tmp rfl) (fun _ => rfl) ?_
 refine o_oloadi 0 rfl type2 T_api_Event_foc0 rfl guard_none (look_tmp rfl) (fun _ => rfl) ?_
 refine o_eql rfl rfl guard_none (look_tmp rfl) (look_tmp rfl) (fun _ => rfl) (fun _ => rfl) ?_
 refine o_move rfl rfl guard_none (look_tmp rfl) (fun _ => rfl) ?_
 refine o_faddr field27_1 type3 (by decide) rfl rfl (guard_some rfl rfl rfl) (look_tmp rfl) (fun _ => rfl) ?_
 refine o_oloadi 1 rfl type3 T_api_Event_foc1 rfl (guard_some rfl rfl rfl) (look_tmp rfl) (fun h => h) ?_
 refine o_faddr field27_1 type3 (by decide) rfl rfl (guard_some rfl rfl rfl) (look_tmp rfl) (fun _ => rfl) ?_
 refine o_oloadi 0 rfl type3 T_api_Event_foc1 rfl (guard_some rfl rfl rfl) (look_tmp rfl) (fun h => h) ?_
 refine o_eql rfl rfl (guard_some rfl rfl rfl) (look_tmp rfl) (look_tmp rfl) (fun h => h) (fun h => h) ?_
 refine o_pick rfl rfl guard_none (look_tmp rfl) (look_tmp rfl) look_bool (fun _ => rfl) (fun h1 h2 => pick_t ((fun _ => rfl) h1) h2) (fun _ _ => rfl) ?_
 refine o_move rfl rfl guard_none (look_tmp rfl) (fun _ => rfl) ?_
 refine o_faddr field27_2 type3 (by decide) rfl rfl (guard_some rfl rfl rfl) (look_tmp rfl) (fun _ => rfl) ?_
 refine o_oloadi 1 rfl type3 T_api_Event_foc2 rfl (guard_some rfl rfl rfl) (look_tmp rfl) (fun h => h) ?_
 refine o_faddr field27_2 type3 (by decide) rfl rfl (guard_some rfl rfl rfl) (look_tmp rfl) (fun _ => rfl) ?_
 refine o_oloadi 0 rfl type3 T_api_Event_foc2 rfl (guard_some rfl rfl rfl) (look_tmp rfl) (fun h => h) ?_
 refine o_eql rfl rfl (guard_some rfl rfl rfl) (look_tmp rfl) (look_tmp rfl) (fun h => h) (fun h => h) ?_
 refine o_pick rfl rfl guard_none (look_tmp rfl) (look_tmp rfl) look_bool (fun _ => rfl) (fun h1 h2 => pick_t ((fun _ => rfl) h1) h2) (fun _ _ => rfl) ?_
 refine o_move rfl rfl guard_none (look_tmp rfl) (fun _ => rfl) ?_
 refine o_faddr field27_3 type9 (by decide) rfl rfl (guard_some rfl rfl rfl) (look_tmp rfl) (fun _ => rfl) ?_
 refine o_oloadi 1 rfl type9 T_api_Event_foc3 rfl (guard_some rfl rfl rfl) (look_tmp rfl) (fun h => h) ?_
 refine o_faddr field27_3 type9 (by decide) rfl rfl (guard_some rfl rfl rfl) (look_tmp rfl) (fun _ => rfl) ?_
 refine o_oloadi 0 rfl type9 T_api_Event_foc3 rfl (guard_some rfl rfl rfl) (look_tmp rfl) (fun h => h) ?_
 refine o_seql rfl rfl (guard_some rfl rfl rfl) (look_tmp rfl) (look_tmp rfl) (fun h => h) (fun h => h) ?_
 refine o_pick rfl rfl guard_none (look_tmp rfl) (look_tmp rfl) look_bool (fun _ => rfl) (fun h1 h2 => pick_t ((fun _ => rfl) h1) h2) (fun _ _ => rfl) ?_
 refine o_move rfl rfl guard_none (look_tmp rfl) (fun _ => rfl) ?_
 refine o_faddr field27_4 type9 (by decide) rfl rfl (guard_some rfl rfl rfl) (look_tmp rfl) (fun _ => rfl) ?_
 refine o_oloadi 1 rfl type9 T_api_Event_foc4 rfl (guard_some rfl rfl rfl) (look_tmp rfl) (fun h => h) ?_
 refine o_faddr field27_4 type9 (by decide) rfl rfl (guard_some rfl rfl rfl) (look_tmp rfl) (fun _ => rfl) ?_
 refine o_oloadi 0 rfl type9 T_api_Event_foc4 rfl (guard_some rfl rfl rfl) (look_tmp rfl) (fun h => h) ?_
 refine o_seql rfl rfl (guard_some rfl rfl rfl) (look_tmp rfl) (look_tmp rfl) (fun h => h) (fun h => h) ?_
 refine o_pick rfl rfl guard_none (look_tmp rfl) (look_tmp rfl) look_bool (fun _ => rfl) (fun h1 h2 => pick_t ((fun _ => rfl) h1) h2) (fun _ _ => rfl) ?_
 refine o_move rfl rfl guard_none (look_tmp rfl) (fun _ => rfl) ?_
 refine o_faddr field27_5 type9 (by decide) rfl rfl (guard_some rfl rfl rfl) (look_tmp rfl) (fun _ => rfl) ?_
 refine o_oloadi 1 rfl type9 T_api_Event_foc5 rfl (guard_some rfl rfl rfl) (look_tmp rfl) (fun h => h) ?_
 refine o_faddr field27_5 type9 (by decide) rfl rfl (guard_some rfl rfl rfl) (look_tmp rfl) (fun _ => rfl) ?_
 refine o_oloadi 0 rfl type9 T_api_Event_foc5 rfl (guard_some rfl rfl rfl) (look_tmp rfl) (fun h => h) ?_
 refine o_seql rfl rfl (guard_some rfl rfl rfl) (look_tmp rfl) (look_tmp rfl) (fun h => h) (fun h => h) ?_
 refine o_pick rfl rfl guard_none (look_tmp rfl) (look_tmp rfl) look_bool (fun _ => rfl) (fun h1 h2 => pick_t ((fun _ => rfl) h1) h2) (fun _ _ => rfl) ?_
 refine o_move rfl rfl guard_none (look_tmp rfl) (fun _ => rfl) ?_
 refine o_faddr field27_6 type25 (by decide) rfl rfl (guard_some rfl rfl rfl) (look_tmp rfl) (fun _ => rfl) ?_
 refine o_oloadi 1 rfl type25 T_api_Event_foc6 rfl (guard_some rfl rfl rfl) (look_tmp rfl) (fun h => h) ?_
 refine o_faddr field27_6 type25 (by decide) rfl rfl (guard_some rfl rfl rfl) (look_tmp rfl) (fun _ => rfl) ?_
 refine o_oloadi 0 rfl type25 T_api_Event_foc6 rfl (guard_some rfl rfl rfl) (look_tmp rfl) (fun h => h) ?_
 refine o_callg rfl rfl rfl (guard_some rfl rfl rfl) callable19 (looks_cons (look_tmp rfl) (fun h => h) (looks_cons (look_tmp rfl) (fun h => h) (looks_nil))) (plain_Value_ok _ _) (fun z3 => ?_)
 refine o_pick rfl rfl guard_none (look_tmp rfl) (look_tmp rfl) look_bool (fun _ => rfl) (fun h1 h2 => pick_t ((fun _ => rfl) h1) h2) (fun _ _ => rfl) ?_
 refine o_assign rfl rfl guard_none (look_tmp rfl) (fun _ => rfl) ?_
 refine o_lt (fun z4 => ?_)
 refine o_end ?_
 refine den_code_ret ?_
 exact dene_res (res1 rfl (rv_tmp rfl))

theorem plain_Events_ok  (a_0 : (List T_api_Event)) (b_1 : (List T_api_Event)) : FunOk Tryz.prog 13 [⟨(T_api_Event_rep).slice, a_0, true⟩, ⟨(T_api_Event_rep).slice, b_1, true⟩] (plain_Events a_0 b_1) (Rep.bool) := by
 refine fun_ok Tryz.func13 rfl Tryz.ntmps13 rfl (all_cons rfl (all_cons rfl all_nil)) (fun w0 ok0 => ?_)
 refine den_seq ?_
 refine den_region rfl ?_
 refine o_assign rfl rfl guard_none look_bool (fun _ => rfl) ?_
 refine o_end ?_
 refine den_seq ?_
 refine den_seq ?_
 refine den_region rfl ?_
 refine o_move rfl rfl guard_none (look_tmp rfl) (fun _ => rfl) ?_
 refine o_llen Tryz.underlying35 rfl rfl guard_none (look_tmp rfl) (fun _ => rfl) ?_
 refine o_move rfl rfl guard_none (look_tmp rfl) (fun _ => rfl) ?_
 refine o_llen Tryz.underlying35 rfl rfl guard_none (look_tmp rfl) (fun _ => rfl) ?_
 refine o_neq rfl rfl guard_none (look_tmp rfl) (look_tmp rfl) (fun _ => rfl) (fun _ => rfl) ?_
 refine o_end ?_
 refine den_cond (look_tmp rfl) ?_ ?_
 ·refine den_seq ?_
  refine den_region rfl ?_
  refine o_assign rfl rfl guard_none look_bool (fun _ => rfl) ?_
  refine o_end ?_
  refine den_code_ret ?_
  refine dene_ret ?_
  exact dene_res (res1 rfl (rv_tmp rfl))
 ·refine den_skip ?_
  refine den_seq ?_
  refine den_seq ?_
  refine den_region rfl ?_
  refine o_assign rfl rfl guard_none (look_int rfl) (fun _ => rfl) ?_
  refine o_end ?_
  refine den_both (fun z1 => []) (fun z1 => []) ?_ (fun z1 => ?_)
  ·refine den_block ?_
   refine den_loop (plain_Events_L1b a_0 b_1) (fun z2 => [(5, ⟨Rep.int .i64, z2, true⟩), (0, ⟨(T_api_Event_rep).slice, a_0, true⟩), (1, ⟨(T_api_Event_rep).slice, b_1, true⟩)]) (fun z2 => []) 0 (fun z2 => ?_) ((sub_env (sube_cons rfl (sube_cons rfl (sube_cons rfl (sube_nil))))))
   refine den_seq ?_
   refine den_seq ?_
   refine den_region rfl ?_
   refine o_move rfl rfl guard_none (look_tmp rfl) (fun _ => rfl) ?_
   refine o_move rfl rfl guard_none (look_tmp rfl) (fun _ => rfl) ?_
   refine o_llen Tryz.underlying35 rfl rfl guard_none (look_tmp rfl) (fun _ => rfl) ?_
   refine o_lss rfl rfl guard_none (look_tmp rfl) (look_tmp rfl) (fun _ => rfl) (fun _ => rfl) ?_
   refine o_end ?_
   refine den_cond (look_tmp rfl) ?_ ?_
   ·refine den_skip ?_
    refine den_seq ?_
    refine den_block ?_
    refine den_seq ?_
    refine den_open (fun z3 h_z3 => ?_)
    refine den_open (fun z4 h_z4 => ?_)
    refine den_open (fun z5 h_z5 => ?_)
    refine den_draw [(17, ⟨(T_api_Event_rep).slice, a_0, true⟩), (18, ⟨Rep.int .i64, z2, true⟩), (19, ⟨(T_api_Event_rep).ptrTo, z3, true⟩), (20, ⟨T_api_Event_rep, z3, true⟩), (21, ⟨(T_api_Event_rep).slice, b_1, true⟩), (22, ⟨Rep.int .i64, z2, true⟩), (23, ⟨(T_api_Event_rep).ptrTo, z4, true⟩), (24, ⟨T_api_Event_rep, z4, true⟩), (25, ⟨Rep.bool, z5, true⟩), (26, ⟨Rep.bool, !z5, true⟩)] mixed rfl rfl ⟨?_, ?_, ?_, ?_, ?_, ?_, ?_, ?_, ?_, ?_, trivial⟩ ?_
    ·intro S hc hk hp
     refine o_move rfl rfl guard_none (look_o rfl rfl) (fun _ => rfl) ?_
     exact d_end rfl rfl rfl
    ·intro S hc hk hp
     refine o_move rfl rfl guard_none (look_o rfl rfl) (fun _ => rfl) ?_
     exact d_end rfl rfl rfl
    ·intro S hc hk hp
     refine o_from (bind_eqO h_z3) ?_
     refine o_iaddr Tryz.underlying35 type27 rfl rfl (look_d rfl rfl (pr hp 0 rfl rfl)) (look_d rfl rfl (pr hp 1 rfl rfl)) rfl rfl (o_eqO ?_)
     exact d_end rfl rfl rfl
    ·intro S hc hk hp
     refine o_load type27 rfl rfl guard_none (look_d rfl rfl (pr hp 0 rfl rfl)) (fun _ => rfl) ?_
     exact d_end rfl rfl rfl
    ·intro S hc hk hp
     refine o_move rfl rfl guard_none (look_o rfl rfl) (fun _ => rfl) ?_
     exact d_end rfl rfl rfl
    ·intro S hc hk hp
     refine o_move rfl rfl guard_none (look_o rfl rfl) (fun _ => rfl) ?_
     exact d_end rfl rfl rfl
    ·intro S hc hk hp
     refine o_from (bind_eqO h_z4) ?_
     refine o_iaddr Tryz.underlying35 type27 rfl rfl (look_d rfl rfl (pr hp 0 rfl rfl)) (look_d rfl rfl (pr hp 1 rfl rfl)) rfl rfl (o_eqO ?_)
     exact d_end rfl rfl rfl
    ·intro S hc hk hp
     refine o_load type27 rfl rfl guard_none (look_d rfl rfl (pr hp 0 rfl rfl)) (fun _ => rfl) ?_
     exact d_end rfl rfl rfl
    ·intro S hc hk hp
     refine o_from (bind_eqO h_z5) ?_
     refine o_call rfl rfl rfl callable9 (looks_cons (look_d rfl rfl (pr hp 0 rfl rfl)) (fun _ => rfl) (looks_cons (look_d rfl rfl (pr hp 1 rfl rfl)) (fun _ => rfl) (looks_nil))) (plain_Event_ok _ _) (o_eqO ?_)
     exact d_end rfl rfl rfl
    ·intro S hc hk hp
     refine o_not rfl rfl guard_none (look_d rfl rfl (pr hp 0 rfl rfl)) (fun _ => rfl) ?_
     exact d_end rfl rfl rfl
    refine den_cond (look_tmp rfl) ?_ ?_
    ·refine den_seq ?_
     refine den_region rfl ?_
     refine o_assign rfl rfl guard_none look_bool (fun _ => rfl) ?_
     refine o_end ?_
     refine den_code_ret ?_
     refine dene_ret ?_
     refine dene_loop (by simp) ?_
     refine dene_ret ?_
     refine dene_both (by simp) ?_
     refine dene_ret ?_
     exact dene_res (res1 rfl (rv_tmp rfl))
    ·refine den_skip ?_
     refine den_blkend ?_
     refine den_region rfl ?_
     refine o_move rfl rfl guard_none (look_tmp rfl) (fun _ => rfl) ?_
     refine o_add rfl rfl guard_none (look_tmp rfl) (look_int rfl) (fun _ => rfl) (fun _ => rfl) ?_
     refine o_assign rfl rfl guard_none (look_tmp rfl) (fun _ => rfl) ?_
     refine o_end ?_
     refine den_next ((sub_env (sube_cons rfl (sube_cons rfl (sube_cons rfl (sube_nil))))))
   ·refine den_code_exit ?_
    refine dene_out rfl ?_
    refine dene_loop (by simp) ?_
    refine dene_to rfl ?_
    refine den_endl ((sub_env (sube_nil)))
  refine den_seq ?_
  refine den_region rfl ?_
  refine o_assign rfl rfl guard_none look_bool (fun _ => rfl) ?_
  refine o_end ?_
  refine den_code_ret ?_
  exact dene_res (res1 rfl (rv_tmp rfl))

theorem law28_ScriptReads_ok  (s_0 : Bytes) : FunOkI Tryz.prog 5 [⟨Rep.str, s_0, true⟩] [.obj false 0 0 (gfact 0 Rep.intE ()) (), .obj false 0 0 (gfact 1 Rep.ifcE ()) (), .obj false 0 0 (gfact 2 Rep.ifcE ()) ()] (law28_ScriptReads s_0) (Rep.bool) (fun (α : Unit) (y : Bool) => y) (fun α y => []) := by
 refine fun_okI Tryz.func5 rfl Tryz.ntmps5 rfl (all_cons rfl all_nil) (fun w0 ok0 M => ?_)
 refine den_seq ?_
 refine den_region rfl ?_
 refine o_assign rfl rfl guard_none look_bool (fun _ => rfl) ?_
 refine o_end ?_
 refine den_seq ?_
 refine den_seq ?_
 refine den_region rfl ?_
 refine o_weak (H' := [] ++ ([.obj false 0 0 (gfact 0 Rep.intE ()) (), .obj false 0 0 (gfact 1 Rep.ifcE ()) (), .obj false 0 0 (gfact 2 Rep.ifcE ()) ()] ++ [])) (sub_pick [0, 1, 2] rfl rfl) ?_
 refine o_callU rfl rfl rfl rfl rfl callable6 (looks_nil) (.cons (.cons (.cons .nil))) (law28_alive_ok ) (fun _ _ => wr_n) (fun z2α z1 => ?_)
 refine o_weak (H' := [.obj false 0 0 (gfact 0 Rep.intE ()) (), .obj false 0 0 (gfact 1 Rep.ifcE ()) (), .obj false 0 0 (gfact 2 Rep.ifcE ()) ()]) (sub_pick [0, 1, 2] rfl rfl) ?_
 refine o_not rfl rfl guard_none (look_tmp rfl) (fun _ => rfl) ?_
 refine o_end ?_
 refine den_cond (look_tmp rfl) ?_ ?_
 ·refine den_seq ?_
  refine den_region rfl ?_
  refine o_assign rfl rfl guard_none look_bool (fun _ => rfl) ?_
  refine o_end ?_
  refine den_code_ret ?_
  refine dene_ret ?_
  exact dene_resI () (res1 rfl (rv_tmp rfl)) (fun _ _ _ k => ato_pick [] rfl rfl k)
 ·refine den_skip ?_
  refine den_seq ?_
  refine den_region rfl ?_
  refine o_move rfl rfl guard_none (look_tmp rfl) (fun _ => rfl) ?_
  refine o_weak (H' := [] ++ ([.obj false 0 0 (gfact 0 Rep.intE ()) (), .obj false 0 0 (gfact 1 Rep.ifcE ()) (), .obj false 0 0 (gfact 2 Rep.ifcE ()) ()] ++ [])) (sub_pick [0, 1, 2] rfl rfl) ?_
  refine o_callU rfl rfl rfl rfl rfl callable12 (looks_cons (look_tmp rfl) (fun _ => rfl) (looks_nil)) (.cons (.cons (.cons .nil))) (script_Read_ok s_0) (fun _ _ => (wr_v wr_n)) (fun z4α z3 => ?_)
  refine o_weak (H' := [.vec z4α (T_api_Event_rep) z3.1, .obj false 0 0 (gfact 0 Rep.intE ()) (), .obj false 0 0 (gfact 1 Rep.ifcE ()) (), .obj false 0 0 (gfact 2 Rep.ifcE ()) ()]) (sub_pick [0, 1, 2, 3] rfl rfl) ?_
  refine o_move rfl rfl guard_none (look_tmp rfl) (fun _ => rfl) ?_
  refine o_fst rfl rfl guard_none (look_tmp rfl) (fun _ => rfl) ?_
  refine o_snd rfl rfl guard_none (look_tmp rfl) (fun _ => rfl) ?_
  refine o_assign rfl rfl guard_none (look_tmp rfl) (fun _ => rfl) ?_
  refine o_assign rfl rfl guard_none (look_tmp rfl) (fun _ => rfl) ?_
  refine o_end ?_
  refine den_seq ?_
  refine den_seq ?_
  refine den_region rfl ?_
  refine o_move rfl rfl guard_none (look_tmp rfl) (fun _ => rfl) ?_
  refine o_slen Tryz.underlying9 rfl rfl guard_none (look_tmp rfl) (fun _ => rfl) ?_
  refine o_gtr rfl rfl guard_none (look_tmp rfl) (look_int rfl) (fun _ => rfl) (fun _ => rfl) ?_
  refine o_end ?_
  refine den_cond (look_tmp rfl) ?_ ?_
  ·refine den_seq ?_
   refine den_region rfl ?_
   refine o_move rfl rfl guard_none (look_tmp rfl) (fun _ => rfl) ?_
   refine o_eql rfl rfl guard_none (look_tmp rfl) (look_int rfl) (fun _ => rfl) (fun _ => rfl) ?_
   refine o_move rfl rfl guard_none (look_tmp rfl) (fun _ => rfl) ?_
   refine o_move rfl rfl (guard_some rfl rfl rfl) (look_tmp rfl) (fun _ => rfl) ?_
   refine o_vlen 0 (.inl rfl) Tryz.underlying35 rfl (guard_some rfl rfl rfl) (look_tmp rfl) (fun h => h) ?_
   refine o_eql rfl rfl (guard_some rfl rfl rfl) (look_tmp rfl) (look_int rfl) (fun h => h) (fun _ => rfl) ?_
   refine o_pick rfl rfl guard_none (look_tmp rfl) (look_tmp rfl) look_bool (fun _ => rfl) (fun h1 h2 => pick_t ((fun _ => rfl) h1) h2) (fun _ _ => rfl) ?_
   refine o_assign rfl rfl guard_none (look_tmp rfl) (fun _ => rfl) ?_
   refine o_lt (fun z6 => ?_)
   refine o_end ?_
   refine den_code_ret ?_
   refine dene_ret ?_
   exact dene_resI () (res1 rfl (rv_tmp rfl)) (fun _ _ _ k => ato_pick [] rfl rfl k)
  ·refine den_skip ?_
   refine den_seq ?_
   refine den_region rfl ?_
   refine o_assign rfl rfl guard_none look_nil1 (fun _ => rfl) ?_
   refine o_end ?_
   refine den_seq ?_
   refine den_region rfl ?_
   refine o_assign rfl rfl guard_none (look_int rfl) (fun _ => rfl) ?_
   refine o_end ?_
   refine den_seq ?_
   refine den_seq ?_
   refine den_region rfl ?_
   refine o_assign rfl rfl guard_none (look_int rfl) (fun _ => rfl) ?_
   refine o_end ?_
   refine den_bothA (A := Value) (fun z7α z7 => [(6, ⟨Rep.int .i64, z7.1, true⟩), (0, ⟨Rep.str, s_0, true⟩), (3, ⟨Rep.val1, z4α, true⟩), (4, ⟨Rep.int .i64, z3.2, true⟩), (5, ⟨Rep.val1, z7α, true⟩)]) (fun z7α z7 => [.vec z4α (T_api_Event_rep) z3.1, .obj false 0 0 (gfact 0 Rep.intE ()) (), .obj false 0 0 (gfact 1 Rep.ifcE ()) (), .obj false 0 0 (gfact 2 Rep.ifcE ()) (), .vec z7α (T_api_Event_rep) z7.2]) ?_ (fun z7α z7 => ?_)
   ·refine den_block ?_
    refine den_loopA (A := Value) (law28_ScriptReads_L1b z3 s_0) (fun z11α z11 => [(6, ⟨Rep.int .i64, z11.1, true⟩), (7, ⟨Rep.int .i64, z11.2.1, true⟩), (0, ⟨Rep.str, s_0, true⟩), (3, ⟨Rep.val1, z4α, true⟩), (4, ⟨Rep.int .i64, z3.2, true⟩), (5, ⟨Rep.val1, z11α, true⟩)]) (fun z11α z11 => [.vec z4α (T_api_Event_rep) z3.1, .obj false 0 0 (gfact 0 Rep.intE ()) (), .obj false 0 0 (gfact 1 Rep.ifcE ()) (), .obj false 0 0 (gfact 2 Rep.ifcE ()) (), .vec z11α (T_api_Event_rep) z11.2.2]) (0, 0, ([] : (List T_api_Event))) (Value.slice none 0 0) (fun z11α z11 => ?_) ((Sub.trans (sub_nilvec (R := T_api_Event_rep) rfl) (Sub.trans (sub_pick [1, 2, 3, 4, 0] rfl rfl) (sub_env (sube_cons rfl (sube_cons rfl (sube_cons rfl (sube_cons rfl (sube_cons rfl (sube_cons rfl (sube_nil)))))))))))
    refine den_seq ?_
    refine den_seq ?_
    refine den_region rfl ?_
    refine o_move rfl rfl guard_none (look_tmp rfl) (fun _ => rfl) ?_
    refine o_move rfl rfl guard_none (look_tmp rfl) (fun _ => rfl) ?_
    refine o_slen Tryz.underlying9 rfl rfl guard_none (look_tmp rfl) (fun _ => rfl) ?_
    refine o_lss rfl rfl guard_none (look_tmp rfl) (look_tmp rfl) (fun _ => rfl) (fun _ => rfl) ?_
    refine o_end ?_
    refine den_cond (look_tmp rfl) ?_ ?_
    ·refine den_skip ?_
     refine den_seq ?_
     refine den_block ?_
     refine den_seq ?_
     refine den_seq ?_
     refine den_region rfl ?_
     refine o_move rfl rfl guard_none (look_tmp rfl) (fun _ => rfl) ?_
     refine o_move rfl rfl guard_none (look_tmp rfl) (fun _ => rfl) ?_
     refine o_sidx Tryz.underlying9 rfl rfl (look_tmp rfl) (look_tmp rfl) rfl rfl (fun z12 => ?_)
     refine o_neq rfl rfl guard_none (look_tmp rfl) (look_int rfl) (fun _ => rfl) (fun _ => rfl) ?_
     refine o_end ?_
     refine den_cond (look_tmp rfl) ?_ ?_
     ·refine den_code_exit ?_
      refine dene_to rfl ?_
      refine den_region rfl ?_
      refine o_move rfl rfl guard_none (look_tmp rfl) (fun _ => rfl) ?_
      refine o_add rfl rfl guard_none (look_tmp rfl) (look_int rfl) (fun _ => rfl) (fun _ => rfl) ?_
      refine o_assign rfl rfl guard_none (look_tmp rfl) (fun _ => rfl) ?_
      refine o_end ?_
      refine den_nextA z11α ((sub_env (sube_cons rfl (sube_cons rfl (sube_cons rfl (sube_cons rfl (sube_cons rfl (sube_cons rfl (sube_nil)))))))))
     ·refine den_skip ?_
      refine den_seq ?_
      refine den_region rfl ?_
      refine o_move rfl rfl guard_none (look_tmp rfl) (fun _ => rfl) ?_
      refine o_move rfl rfl guard_none (look_tmp rfl) (fun _ => rfl) ?_
      refine o_move rfl rfl guard_none (look_tmp rfl) (fun _ => rfl) ?_
      refine o_ssub Tryz.underlying9 rfl rfl (look_tmp rfl) rfl (bnd_some (look_tmp rfl) (fun _ => rfl)) (bnd_some (look_tmp rfl) (fun _ => rfl)) (fun z13 => ?_)
      refine o_call rfl rfl rfl callable8 (looks_cons (look_tmp rfl) (fun _ => rfl) (looks_nil)) (ref28_Parse_ok _) (fun z14 => ?_)
      refine o_move rfl rfl guard_none (look_tmp rfl) (fun _ => rfl) ?_
      refine o_fst rfl rfl guard_none (look_tmp rfl) (fun _ => rfl) ?_
      refine o_snd rfl rfl guard_none (look_tmp rfl) (fun _ => rfl) ?_
      refine o_alloc zero27 rfl rfl (fun z15 => ?_)
      refine o_ostore type27 foc_self guard_none (look_tmp rfl) (fun _ => rfl) (look_tmp rfl) (fun _ => rfl) ?_
      refine o_assign rfl rfl guard_none (look_tmp rfl) (fun _ => rfl) ?_
      refine o_end ?_
      refine den_seq ?_
      refine den_seq ?_
      refine den_region rfl ?_
      refine o_move rfl rfl guard_none (look_tmp rfl) (fun _ => rfl) ?_
      refine o_not rfl rfl guard_none (look_tmp rfl) (fun _ => rfl) ?_
      refine o_end ?_
      refine den_cond (look_tmp rfl) ?_ ?_
      ·refine den_seq ?_
       refine den_region rfl ?_
       refine o_move rfl rfl guard_none (look_tmp rfl) (fun _ => rfl) ?_
       refine o_eql rfl rfl guard_none (look_tmp rfl) (look_int rfl) (fun _ => rfl) (fun _ => rfl) ?_
       refine o_move rfl rfl guard_none (look_tmp rfl) (fun _ => rfl) ?_
       refine o_move rfl rfl (guard_some rfl rfl rfl) (look_tmp rfl) (fun _ => rfl) ?_
       refine o_vlen 1 (.inl rfl) Tryz.underlying35 rfl (guard_some rfl rfl rfl) (look_tmp rfl) (fun h => h) ?_
       refine o_eql rfl rfl (guard_some rfl rfl rfl) (look_tmp rfl) (look_int rfl) (fun h => h) (fun _ => rfl) ?_
       refine o_pick rfl rfl guard_none (look_tmp rfl) (look_tmp rfl) look_bool (fun _ => rfl) (fun h1 h2 => pick_t ((fun _ => rfl) h1) h2) (fun _ _ => rfl) ?_
       refine o_assign rfl rfl guard_none (look_tmp rfl) (fun _ => rfl) ?_
       refine o_lt (fun z16 => ?_)
       refine o_end ?_
       refine den_code_ret ?_
       refine dene_ret ?_
       refine dene_loopA (by simp) ?_
       refine dene_ret ?_
       refine dene_bothA (by simp) ?_
       refine dene_ret ?_
       exact dene_resI () (res1 rfl (rv_tmp rfl)) (fun _ _ _ k => ato_pick [] rfl rfl k)
      ·refine den_skip ?_
       refine den_seq ?_
       refine den_region rfl ?_
       refine o_move rfl rfl guard_none (look_tmp rfl) (fun _ => rfl) ?_
       refine o_oloadi 0 rfl type27 foc_self rfl guard_none (look_tmp rfl) (fun _ => rfl) ?_
       refine o_bslice Tryz.underlying35 (info_i info27) (info_z info27) type27 rfl rfl rfl rfl rfl rfl guard_none (looksL_cons (look_tmp rfl) (fun _ => rfl) (looksL_nil)) ?_
       refine o_weak (H' := [.vec z11α (T_api_Event_rep) z11.2.2, .obj true z15 0 (.dat T_api_Event_rep) z14.1, .vec z4α (T_api_Event_rep) z3.1, .obj false 0 0 (gfact 0 Rep.intE ()) (), .obj false 0 0 (gfact 1 Rep.ifcE ()) (), .obj false 0 0 (gfact 2 Rep.ifcE ()) ()]) (sub_pick [5, 0, 1, 2, 3, 4] rfl rfl) ?_
       refine o_append Tryz.underlying35 (info_i info27) (info_z info27) (info_all info27).2.1 rfl (info_all info27).2.2 rfl (look_tmp rfl) rfl (feeds_slice Tryz.underlying35 rfl (look_tmp rfl) rfl) (fun z18 z17 => ?_)
       refine o_assign rfl rfl guard_none (look_tmp rfl) (fun _ => rfl) ?_
       refine o_end ?_
       refine den_region rfl ?_
       refine o_move rfl rfl guard_none (look_tmp rfl) (fun _ => rfl) ?_
       refine o_add rfl rfl guard_none (look_tmp rfl) (look_int rfl) (fun _ => rfl) (fun _ => rfl) ?_
       refine o_assign rfl rfl guard_none (look_tmp rfl) (fun _ => rfl) ?_
       refine o_end ?_
       refine den_blkend ?_
       refine den_region rfl ?_
       refine o_move rfl rfl guard_none (look_tmp rfl) (fun _ => rfl) ?_
       refine o_add rfl rfl guard_none (look_tmp rfl) (look_int rfl) (fun _ => rfl) (fun _ => rfl) ?_
       refine o_assign rfl rfl guard_none (look_tmp rfl) (fun _ => rfl) ?_
       refine o_end ?_
       refine den_nextA z18 ((Sub.trans (sub_pick [2, 3, 4, 5, 0] rfl rfl) (sub_env (sube_cons rfl (sube_cons rfl (sube_cons rfl (sube_cons rfl (sube_cons rfl (sube_cons rfl (sube_nil))))))))))
    ·refine den_code_exit ?_
     refine dene_out rfl ?_
     refine dene_loopA (by simp) ?_
     refine dene_to rfl ?_
     refine den_endlA z11α ((sub_env (sube_cons rfl (sube_cons rfl (sube_cons rfl (sube_cons rfl (sube_cons rfl (sube_nil))))))))
   refine den_seq ?_
   refine den_seq ?_
   refine den_region rfl ?_
   refine o_move rfl rfl guard_none (look_tmp rfl) (fun _ => rfl) ?_
   refine o_move rfl rfl guard_none (look_tmp rfl) (fun _ => rfl) ?_
   refine o_slen Tryz.underlying9 rfl rfl guard_none (look_tmp rfl) (fun _ => rfl) ?_
   refine o_lss rfl rfl guard_none (look_tmp rfl) (look_tmp rfl) (fun _ => rfl) (fun _ => rfl) ?_
   refine o_end ?_
   refine den_cond (look_tmp rfl) ?_ ?_
   ·refine den_seq ?_
    refine den_region rfl ?_
    refine o_move rfl rfl guard_none (look_tmp rfl) (fun _ => rfl) ?_
    refine o_eql rfl rfl guard_none (look_tmp rfl) (look_int rfl) (fun _ => rfl) (fun _ => rfl) ?_
    refine o_move rfl rfl guard_none (look_tmp rfl) (fun _ => rfl) ?_
    refine o_move rfl rfl (guard_some rfl rfl rfl) (look_tmp rfl) (fun _ => rfl) ?_
    refine o_vlen 0 (.inl rfl) Tryz.underlying35 rfl (guard_some rfl rfl rfl) (look_tmp rfl) (fun h => h) ?_
    refine o_eql rfl rfl (guard_some rfl rfl rfl) (look_tmp rfl) (look_int rfl) (fun h => h) (fun _ => rfl) ?_
    refine o_pick rfl rfl guard_none (look_tmp rfl) (look_tmp rfl) look_bool (fun _ => rfl) (fun h1 h2 => pick_t ((fun _ => rfl) h1) h2) (fun _ _ => rfl) ?_
    refine o_assign rfl rfl guard_none (look_tmp rfl) (fun _ => rfl) ?_
    refine o_lt (fun z8 => ?_)
    refine o_end ?_
    refine den_code_ret ?_
    refine dene_ret ?_
    exact dene_resI () (res1 rfl (rv_tmp rfl)) (fun _ _ _ k => ato_pick [] rfl rfl k)
   ·refine den_skip ?_
    refine den_seq ?_
    refine den_seq ?_
    refine den_region rfl ?_
    refine o_move rfl rfl guard_none (look_tmp rfl) (fun _ => rfl) ?_
    refine o_vlen 4 (.inl rfl) Tryz.underlying35 rfl guard_none (look_tmp rfl) (fun _ => rfl) ?_
    refine o_gtr rfl rfl guard_none (look_tmp rfl) (look_int rfl) (fun _ => rfl) (fun _ => rfl) ?_
    refine o_end ?_
    refine den_cond (look_tmp rfl) ?_ ?_
    ·refine den_seq ?_
     refine den_region rfl ?_
     refine o_move rfl rfl guard_none (look_tmp rfl) (fun _ => rfl) ?_
     refine o_eql rfl rfl guard_none (look_tmp rfl) (look_int rfl) (fun _ => rfl) (fun _ => rfl) ?_
     refine o_move rfl rfl guard_none (look_tmp rfl) (fun _ => rfl) ?_
     refine o_move rfl rfl (guard_some rfl rfl rfl) (look_tmp rfl) (fun _ => rfl) ?_
     refine o_vlen 0 (.inl rfl) Tryz.underlying35 rfl (guard_some rfl rfl rfl) (look_tmp rfl) (fun h => h) ?_
     refine o_eql rfl rfl (guard_some rfl rfl rfl) (look_tmp rfl) (look_int rfl) (fun h => h) (fun _ => rfl) ?_
     refine o_pick rfl rfl guard_none (look_tmp rfl) (look_tmp rfl) look_bool (fun _ => rfl) (fun h1 h2 => pick_t ((fun _ => rfl) h1) h2) (fun _ _ => rfl) ?_
     refine o_assign rfl rfl guard_none (look_tmp rfl) (fun _ => rfl) ?_
     refine o_lt (fun z9 => ?_)
     refine o_end ?_
     refine den_code_ret ?_
     refine dene_ret ?_
     exact dene_resI () (res1 rfl (rv_tmp rfl)) (fun _ _ _ k => ato_pick [] rfl rfl k)
    ·refine den_skip ?_
     refine den_seq ?_
     refine den_region rfl ?_
     refine o_move rfl rfl guard_none (look_tmp rfl) (fun _ => rfl) ?_
     refine o_eql rfl rfl guard_none (look_tmp rfl) (look_int rfl) (fun _ => rfl) (fun _ => rfl) ?_
     refine o_move rfl rfl guard_none (look_tmp rfl) (fun _ => rfl) ?_
     refine o_move rfl rfl (guard_some rfl rfl rfl) (look_tmp rfl) (fun _ => rfl) ?_
     refine o_move rfl rfl (guard_some rfl rfl rfl) (look_tmp rfl) (fun _ => rfl) ?_
     refine o_lend rfl rfl rfl rfl (guard_some rfl rfl rfl) callable13 (looksM_l 0 rfl (lookl_wholeg (.inl rfl) (look_tmp rfl) (fun h => h)) (looksM_l 4 rfl (lookl_wholeg (.inl rfl) (look_tmp rfl) (fun h => h)) (looksM_nil))) fl_bool (plain_Events_ok _ _) (fun z10 => ?_)
     refine o_pick rfl rfl guard_none (look_tmp rfl) (look_tmp rfl) look_bool (fun _ => rfl) (fun h1 h2 => pick_t ((fun _ => rfl) h1) h2) (fun _ _ => rfl) ?_
     refine o_assign rfl rfl guard_none (look_tmp rfl) (fun _ => rfl) ?_
     refine o_end ?_
     refine den_code_ret ?_
     exact dene_resI () (res1 rfl (rv_tmp rfl)) (fun _ _ _ k => ato_pick [] rfl rfl k)

end Go.Proofs.YtndooaaeghfolaaGreatDoor.M
