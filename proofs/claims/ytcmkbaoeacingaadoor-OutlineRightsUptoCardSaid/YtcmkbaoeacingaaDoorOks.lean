/- That the Go functions answer as the plain ones: written by gen2.py. -/
import Derived.Test.YtcmkbaoeacingaaDoorOks2
namespace Go.Proofs.YtcmkbaoeacingaaDoor.M
open Go.Eng Go
set_option linter.unusedVariables false

theorem ref09_Expr_rec_ok (fuel : Nat) (rec_ref09_Expr : T_api_Expr → Option Bytes) (rec_ref09_list : (List T_api_Expr) → Option Bytes) (hrec_ref09_Expr : ∀ (e_0 : T_api_Expr), FunOk Tryd.prog 12 [⟨T_api_Expr_rep, e_0, true⟩] (rec_ref09_Expr e_0) (Rep.str)) (hrec_ref09_list : ∀ (l_0 : (List T_api_Expr)), FunOk Tryd.prog 26 [⟨(T_api_Expr_rep).slice, l_0, true⟩] (rec_ref09_list l_0) (Rep.str))  (e_0 : T_api_Expr) : FunOk Tryd.prog 12 [⟨T_api_Expr_rep, e_0, true⟩] (ref09_Expr_rec fuel rec_ref09_Expr rec_ref09_list e_0) (Rep.str) := by
  refine fun_ok Tryd.func12 rfl Tryd.ntmps12 rfl (all_cons rfl all_nil) (fun w0 ok0 => ?_)
  refine den_seq ?_
  refine den_region rfl ?_
  refine o_box rfl rfl (look_tmp rfl) rfl (fun z1 => ?_)
  refine o_assign rfl rfl guard_none (look_str (l := []) rfl (by decide)) (fun _ => rfl) ?_
  refine o_end ?_
  refine den_seq ?_
  refine den_seq ?_
  refine den_region rfl ?_
  refine o_faddr field35_0 type3 (by decide) rfl rfl guard_none (look_tmp rfl) (fun _ => rfl) ?_
  refine o_oloadi 0 rfl type3 T_api_Expr_foc0 rfl guard_none (look_tmp rfl) (fun _ => rfl) ?_
  refine o_eql rfl rfl guard_none (look_tmp rfl) (look_int rfl) (fun _ => rfl) (fun _ => rfl) ?_
  refine o_end ?_
  refine den_cond (look_tmp rfl) ?_ ?_
  · refine den_seq ?_
    refine den_region rfl ?_
    refine o_faddr field35_5 type33 (by decide) rfl rfl guard_none (look_tmp rfl) (fun _ => rfl) ?_
    refine o_oloadi 0 rfl type33 T_api_Expr_foc5 rfl guard_none (look_tmp rfl) (fun _ => rfl) ?_
    refine o_call rfl rfl rfl callable26 (looks_cons (look_tmp rfl) (fun _ => rfl) (looks_nil)) (hrec_ref09_list _) (fun z2 => ?_)
    refine o_sadd rfl rfl (look_str (l := [123]) rfl (by decide)) (look_tmp rfl) rfl rfl (fun z3 => ?_)
    refine o_sadd rfl rfl (look_tmp rfl) (look_str (l := [125]) rfl (by decide)) rfl rfl (fun z4 => ?_)
    refine o_assign rfl rfl guard_none (look_tmp rfl) (fun _ => rfl) ?_
    refine o_end ?_
    refine den_code_ret ?_
    refine dene_ret ?_
    exact dene_res (res1 rfl (rv_tmp rfl))
  · refine den_skip ?_
    refine den_seq ?_
    refine den_seq ?_
    refine den_region rfl ?_
    refine o_faddr field35_5 type33 (by decide) rfl rfl guard_none (look_tmp rfl) (fun _ => rfl) ?_
    refine o_oloadi 0 rfl type33 T_api_Expr_foc5 rfl guard_none (look_tmp rfl) (fun _ => rfl) ?_
    refine o_llen Tryd.underlying33 rfl rfl guard_none (look_tmp rfl) (fun _ => rfl) ?_
    refine o_eql rfl rfl guard_none (look_tmp rfl) (look_int rfl) (fun _ => rfl) (fun _ => rfl) ?_
    refine o_end ?_
    refine den_cond (look_tmp rfl) ?_ ?_
    · refine den_seq ?_
      refine den_region rfl ?_
      refine o_oloadi 0 rfl type35 foc_self rfl guard_none (look_tmp rfl) (fun _ => rfl) ?_
      refine o_call rfl rfl rfl callable27 (looks_cons (look_tmp rfl) (fun _ => rfl) (looks_nil)) (ref09_leaf_ok _) (fun z5 => ?_)
      refine o_assign rfl rfl guard_none (look_tmp rfl) (fun _ => rfl) ?_
      refine o_end ?_
      refine den_code_ret ?_
      refine dene_ret ?_
      exact dene_res (res1 rfl (rv_tmp rfl))
    · refine den_skip ?_
      refine den_seq ?_
      refine den_seq ?_
      refine den_region rfl ?_
      refine o_faddr field35_0 type3 (by decide) rfl rfl guard_none (look_tmp rfl) (fun _ => rfl) ?_
      refine o_oloadi 0 rfl type3 T_api_Expr_foc0 rfl guard_none (look_tmp rfl) (fun _ => rfl) ?_
      refine o_eql rfl rfl guard_none (look_tmp rfl) (look_int rfl) (fun _ => rfl) (fun _ => rfl) ?_
      refine o_end ?_
      refine den_cond (look_tmp rfl) ?_ ?_
      · refine den_seq ?_
        refine den_region rfl ?_
        refine o_faddr field35_5 type33 (by decide) rfl rfl guard_none (look_tmp rfl) (fun _ => rfl) ?_
        refine o_oloadi 0 rfl type33 T_api_Expr_foc5 rfl guard_none (look_tmp rfl) (fun _ => rfl) ?_
        refine o_iaddr Tryd.underlying33 type35 rfl rfl (look_tmp rfl) (look_int rfl) rfl rfl (fun z6 => ?_)
        refine o_load type35 rfl rfl guard_none (look_tmp rfl) (fun _ => rfl) ?_
        refine o_call rfl rfl rfl callable12 (looks_cons (look_tmp rfl) (fun _ => rfl) (looks_nil)) (hrec_ref09_Expr _) (fun z7 => ?_)
        refine o_sadd rfl rfl (look_str (l := [45]) rfl (by decide)) (look_tmp rfl) rfl rfl (fun z8 => ?_)
        refine o_assign rfl rfl guard_none (look_tmp rfl) (fun _ => rfl) ?_
        refine o_end ?_
        refine den_code_ret ?_
        refine dene_ret ?_
        exact dene_res (res1 rfl (rv_tmp rfl))
      · refine den_skip ?_
        refine den_seq ?_
        refine den_seq ?_
        refine den_region rfl ?_
        refine o_faddr field35_0 type3 (by decide) rfl rfl guard_none (look_tmp rfl) (fun _ => rfl) ?_
        refine o_oloadi 0 rfl type3 T_api_Expr_foc0 rfl guard_none (look_tmp rfl) (fun _ => rfl) ?_
        refine o_eql rfl rfl guard_none (look_tmp rfl) (look_int rfl) (fun _ => rfl) (fun _ => rfl) ?_
        refine o_end ?_
        refine den_cond (look_tmp rfl) ?_ ?_
        · refine den_seq ?_
          refine den_region rfl ?_
          refine o_faddr field35_5 type33 (by decide) rfl rfl guard_none (look_tmp rfl) (fun _ => rfl) ?_
          refine o_oloadi 0 rfl type33 T_api_Expr_foc5 rfl guard_none (look_tmp rfl) (fun _ => rfl) ?_
          refine o_iaddr Tryd.underlying33 type35 rfl rfl (look_tmp rfl) (look_int rfl) rfl rfl (fun z9 => ?_)
          refine o_load type35 rfl rfl guard_none (look_tmp rfl) (fun _ => rfl) ?_
          refine o_call rfl rfl rfl callable12 (looks_cons (look_tmp rfl) (fun _ => rfl) (looks_nil)) (hrec_ref09_Expr _) (fun z10 => ?_)
          refine o_sadd rfl rfl (look_str (l := [110, 111, 116, 32]) rfl (by decide)) (look_tmp rfl) rfl rfl (fun z11 => ?_)
          refine o_assign rfl rfl guard_none (look_tmp rfl) (fun _ => rfl) ?_
          refine o_end ?_
          refine den_code_ret ?_
          refine dene_ret ?_
          exact dene_res (res1 rfl (rv_tmp rfl))
        · refine den_skip ?_
          refine den_seq ?_
          refine den_seq ?_
          refine den_region rfl ?_
          refine o_faddr field35_5 type33 (by decide) rfl rfl guard_none (look_tmp rfl) (fun _ => rfl) ?_
          refine o_oloadi 0 rfl type33 T_api_Expr_foc5 rfl guard_none (look_tmp rfl) (fun _ => rfl) ?_
          refine o_llen Tryd.underlying33 rfl rfl guard_none (look_tmp rfl) (fun _ => rfl) ?_
          refine o_eql rfl rfl guard_none (look_tmp rfl) (look_int rfl) (fun _ => rfl) (fun _ => rfl) ?_
          refine o_move rfl rfl guard_none (look_tmp rfl) (fun _ => rfl) ?_
          refine o_faddr field35_0 type3 (by decide) rfl rfl (guard_some rfl rfl rfl) (look_tmp rfl) (fun _ => rfl) ?_
          refine o_oloadi 0 rfl type3 T_api_Expr_foc0 rfl (guard_some rfl rfl rfl) (look_tmp rfl) (fun h => h) ?_
          refine o_eql rfl rfl (guard_some rfl rfl rfl) (look_tmp rfl) (look_int rfl) (fun h => h) (fun _ => rfl) ?_
          refine o_pick rfl rfl guard_none (look_tmp rfl) look_bool (look_tmp rfl) (fun _ => rfl) (fun _ _ => rfl) (fun h1 h2 => pick_f ((fun _ => rfl) h1) h2) ?_
          refine o_end ?_
          refine den_cond (look_tmp rfl) ?_ ?_
          · refine den_seq ?_
            refine den_open (fun z12 h_z12 => ?_)
            refine den_open (fun z13 h_z13 => ?_)
            refine den_open (fun z14 h_z14 => ?_)
            refine den_open (fun z15 h_z15 => ?_)
            refine den_open (fun z16 h_z16 => ?_)
            refine den_draw [(44, ⟨T_api_Expr_rep, e_0, true⟩), (45, ⟨Rep.str, z12, true⟩), (46, ⟨Rep.str, z13, true⟩), (47, ⟨Rep.addr, (z1, 0 + 5), true⟩), (48, ⟨(T_api_Expr_rep).slice, e_0.Kids, true⟩), (49, ⟨Rep.str, z14, true⟩), (50, ⟨Rep.str, z15, true⟩), (51, ⟨Rep.str, z16, true⟩), (2, ⟨Rep.str, z16, true⟩)] mixed rfl rfl ⟨?_, ?_, ?_, ?_, ?_, ?_, ?_, ?_, ?_, trivial⟩ ?_
            · intro S hc hk hp
              refine o_oloadi 0 rfl type35 foc_self rfl guard_none (look_o rfl rfl) (fun _ => rfl) ?_
              exact d_end rfl rfl rfl
            · intro S hc hk hp
              refine o_from (bind_eqO h_z12) ?_
              refine o_call rfl rfl rfl callable28 (looks_cons (look_d rfl rfl (pr hp 0 rfl rfl)) (fun _ => rfl) (looks_nil)) (ref09_front_ok _) (o_eqO ?_)
              exact d_end rfl rfl rfl
            · intro S hc hk hp
              refine o_from (bind_eqO h_z13) ?_
              refine o_sadd rfl rfl (look_d rfl rfl (pr hp 0 rfl rfl)) (look_str (l := [40]) rfl (by decide)) rfl rfl (o_eqO ?_)
              exact d_end rfl rfl rfl
            · intro S hc hk hp
              refine o_faddr field35_5 type33 (by decide) rfl rfl guard_none (look_o rfl rfl) (fun _ => rfl) ?_
              exact d_end rfl rfl rfl
            · intro S hc hk hp
              refine o_oloadi 0 rfl type33 T_api_Expr_foc5 rfl guard_none (look_d rfl rfl (pr hp 0 rfl rfl)) (fun _ => rfl) ?_
              exact d_end rfl rfl rfl
            · intro S hc hk hp
              refine o_from (bind_eqO h_z14) ?_
              refine o_call rfl rfl rfl callable26 (looks_cons (look_d rfl rfl (pr hp 0 rfl rfl)) (fun _ => rfl) (looks_nil)) (hrec_ref09_list _) (o_eqO ?_)
              exact d_end rfl rfl rfl
            · intro S hc hk hp
              refine o_from (bind_eqO h_z15) ?_
              refine o_sadd rfl rfl (look_d rfl rfl (pr hp 0 rfl rfl)) (look_d rfl rfl (pr hp 1 rfl rfl)) rfl rfl (o_eqO ?_)
              exact d_end rfl rfl rfl
            · intro S hc hk hp
              refine o_from (bind_eqO h_z16) ?_
              refine o_sadd rfl rfl (look_d rfl rfl (pr hp 0 rfl rfl)) (look_str (l := [41]) rfl (by decide)) rfl rfl (o_eqO ?_)
              exact d_end rfl rfl rfl
            · intro S hc hk hp
              refine o_assign rfl rfl guard_none (look_d rfl rfl (pr hp 0 rfl rfl)) (fun _ => rfl) ?_
              exact d_end rfl rfl rfl
            refine den_code_ret ?_
            refine dene_ret ?_
            exact dene_res (res1 rfl (rv_tmp rfl))
          · refine den_skip ?_
            refine den_seq ?_
            refine den_open (fun z17 h_z17 => ?_)
            refine den_open (fun z18 h_z18 => ?_)
            refine den_open (fun z19 h_z19 => ?_)
            refine den_open (fun z20 h_z20 => ?_)
            refine den_open (fun z21 h_z21 => ?_)
            refine den_open (fun z22 h_z22 => ?_)
            refine den_open (fun z23 h_z23 => ?_)
            refine den_open (fun z24 h_z24 => ?_)
            refine den_open (fun z25 h_z25 => ?_)
            refine den_open (fun z26 h_z26 => ?_)
            refine den_open (fun z27 h_z27 => ?_)
            refine den_draw [(52, ⟨Rep.addr, (z1, 0 + 5), true⟩), (53, ⟨(T_api_Expr_rep).slice, e_0.Kids, true⟩), (54, ⟨(T_api_Expr_rep).ptrTo, z17, true⟩), (55, ⟨T_api_Expr_rep, z17, true⟩), (56, ⟨Rep.str, z18, true⟩), (57, ⟨Rep.str, z19, true⟩), (58, ⟨Rep.str, z20, true⟩), (59, ⟨Rep.addr, (z1, 0), true⟩), (60, ⟨Rep.int .i64, e_0.Kind, true⟩), (61, ⟨Rep.str, z21, true⟩), (62, ⟨Rep.str, z22, true⟩), (63, ⟨Rep.str, z23, true⟩), (64, ⟨Rep.addr, (z1, 0 + 5), true⟩), (65, ⟨(T_api_Expr_rep).slice, e_0.Kids, true⟩), (66, ⟨(T_api_Expr_rep).ptrTo, z24, true⟩), (67, ⟨T_api_Expr_rep, z24, true⟩), (68, ⟨Rep.str, z25, true⟩), (69, ⟨Rep.str, z26, true⟩), (70, ⟨Rep.str, z27, true⟩), (2, ⟨Rep.str, z27, true⟩)] mixed rfl rfl ⟨?_, ?_, ?_, ?_, ?_, ?_, ?_, ?_, ?_, ?_, ?_, ?_, ?_, ?_, ?_, ?_, ?_, ?_, ?_, ?_, trivial⟩ ?_
            · intro S hc hk hp
              refine o_faddr field35_5 type33 (by decide) rfl rfl guard_none (look_o rfl rfl) (fun _ => rfl) ?_
              exact d_end rfl rfl rfl
            · intro S hc hk hp
              refine o_oloadi 0 rfl type33 T_api_Expr_foc5 rfl guard_none (look_d rfl rfl (pr hp 0 rfl rfl)) (fun _ => rfl) ?_
              exact d_end rfl rfl rfl
            · intro S hc hk hp
              refine o_from (bind_eqO h_z17) ?_
              refine o_iaddr Tryd.underlying33 type35 rfl rfl (look_d rfl rfl (pr hp 0 rfl rfl)) (look_int rfl) rfl rfl (o_eqO ?_)
              exact d_end rfl rfl rfl
            · intro S hc hk hp
              refine o_load type35 rfl rfl guard_none (look_d rfl rfl (pr hp 0 rfl rfl)) (fun _ => rfl) ?_
              exact d_end rfl rfl rfl
            · intro S hc hk hp
              refine o_from (bind_eqO h_z18) ?_
              refine o_call rfl rfl rfl callable12 (looks_cons (look_d rfl rfl (pr hp 0 rfl rfl)) (fun _ => rfl) (looks_nil)) (hrec_ref09_Expr _) (o_eqO ?_)
              exact d_end rfl rfl rfl
            · intro S hc hk hp
              refine o_from (bind_eqO h_z19) ?_
              refine o_sadd rfl rfl (look_str (l := [40]) rfl (by decide)) (look_d rfl rfl (pr hp 0 rfl rfl)) rfl rfl (o_eqO ?_)
              exact d_end rfl rfl rfl
            · intro S hc hk hp
              refine o_from (bind_eqO h_z20) ?_
              refine o_sadd rfl rfl (look_d rfl rfl (pr hp 0 rfl rfl)) (look_str (l := [32]) rfl (by decide)) rfl rfl (o_eqO ?_)
              exact d_end rfl rfl rfl
            · intro S hc hk hp
              refine o_faddr field35_0 type3 (by decide) rfl rfl guard_none (look_o rfl rfl) (fun _ => rfl) ?_
              exact d_end rfl rfl rfl
            · intro S hc hk hp
              refine o_oloadi 0 rfl type3 T_api_Expr_foc0 rfl guard_none (look_d rfl rfl (pr hp 0 rfl rfl)) (fun _ => rfl) ?_
              exact d_end rfl rfl rfl
            · intro S hc hk hp
              refine o_from (bind_eqO h_z21) ?_
              refine o_call rfl rfl rfl callable29 (looks_cons (look_d rfl rfl (pr hp 0 rfl rfl)) (fun _ => rfl) (looks_nil)) (ref09_between_ok _) (o_eqO ?_)
              exact d_end rfl rfl rfl
            · intro S hc hk hp
              refine o_from (bind_eqO h_z22) ?_
              refine o_sadd rfl rfl (look_d rfl rfl (pr hp 0 rfl rfl)) (look_d rfl rfl (pr hp 1 rfl rfl)) rfl rfl (o_eqO ?_)
              exact d_end rfl rfl rfl
            · intro S hc hk hp
              refine o_from (bind_eqO h_z23) ?_
              refine o_sadd rfl rfl (look_d rfl rfl (pr hp 0 rfl rfl)) (look_str (l := [32]) rfl (by decide)) rfl rfl (o_eqO ?_)
              exact d_end rfl rfl rfl
            · intro S hc hk hp
              refine o_faddr field35_5 type33 (by decide) rfl rfl guard_none (look_o rfl rfl) (fun _ => rfl) ?_
              exact d_end rfl rfl rfl
            · intro S hc hk hp
              refine o_oloadi 0 rfl type33 T_api_Expr_foc5 rfl guard_none (look_d rfl rfl (pr hp 0 rfl rfl)) (fun _ => rfl) ?_
              exact d_end rfl rfl rfl
            · intro S hc hk hp
              refine o_from (bind_eqO h_z24) ?_
              refine o_iaddr Tryd.underlying33 type35 rfl rfl (look_d rfl rfl (pr hp 0 rfl rfl)) (look_int rfl) rfl rfl (o_eqO ?_)
              exact d_end rfl rfl rfl
            · intro S hc hk hp
              refine o_load type35 rfl rfl guard_none (look_d rfl rfl (pr hp 0 rfl rfl)) (fun _ => rfl) ?_
              exact d_end rfl rfl rfl
            · intro S hc hk hp
              refine o_from (bind_eqO h_z25) ?_
              refine o_call rfl rfl rfl callable12 (looks_cons (look_d rfl rfl (pr hp 0 rfl rfl)) (fun _ => rfl) (looks_nil)) (hrec_ref09_Expr _) (o_eqO ?_)
              exact d_end rfl rfl rfl
            · intro S hc hk hp
              refine o_from (bind_eqO h_z26) ?_
              refine o_sadd rfl rfl (look_d rfl rfl (pr hp 0 rfl rfl)) (look_d rfl rfl (pr hp 1 rfl rfl)) rfl rfl (o_eqO ?_)
              exact d_end rfl rfl rfl
            · intro S hc hk hp
              refine o_from (bind_eqO h_z27) ?_
              refine o_sadd rfl rfl (look_d rfl rfl (pr hp 0 rfl rfl)) (look_str (l := [41]) rfl (by decide)) rfl rfl (o_eqO ?_)
              exact d_end rfl rfl rfl
            · intro S hc hk hp
              refine o_assign rfl rfl guard_none (look_d rfl rfl (pr hp 0 rfl rfl)) (fun _ => rfl) ?_
              exact d_end rfl rfl rfl
            refine den_code_ret ?_
            exact dene_res (res1 rfl (rv_tmp rfl))

theorem ref09_list_rec_ok (fuel : Nat) (rec_ref09_Expr : T_api_Expr → Option Bytes) (hrec_ref09_Expr : ∀ (e_0 : T_api_Expr), FunOk Tryd.prog 12 [⟨T_api_Expr_rep, e_0, true⟩] (rec_ref09_Expr e_0) (Rep.str))  (l_0 : (List T_api_Expr)) : FunOk Tryd.prog 26 [⟨(T_api_Expr_rep).slice, l_0, true⟩] (ref09_list_rec fuel rec_ref09_Expr l_0) (Rep.str) := by
  refine fun_ok Tryd.func26 rfl Tryd.ntmps26 rfl (all_cons rfl all_nil) (fun w0 ok0 => ?_)
  refine den_seq ?_
  refine den_region rfl ?_
  refine o_assign rfl rfl guard_none (look_str (l := []) rfl (by decide)) (fun _ => rfl) ?_
  refine o_end ?_
  refine den_seq ?_
  refine den_region rfl ?_
  refine o_assign rfl rfl guard_none (look_str (l := []) rfl (by decide)) (fun _ => rfl) ?_
  refine o_end ?_
  refine den_seq ?_
  refine den_seq ?_
  refine den_region rfl ?_
  refine o_assign rfl rfl guard_none (look_int rfl) (fun _ => rfl) ?_
  refine o_end ?_
  refine den_bind (fun z1 => [(3, ⟨Rep.str, z1, true⟩)]) (fun z1 => []) ?_ (fun z1 => ?_)
  · refine den_block ?_
    refine den_loop (ref09_list_L1b rec_ref09_Expr l_0) (fun z2 => [(3, ⟨Rep.str, z2.1, true⟩), (4, ⟨Rep.int .i64, z2.2, true⟩), (0, ⟨(T_api_Expr_rep).slice, l_0, true⟩)]) (fun z2 => []) (([] : Bytes), 0) (fun z2 => ?_) ((sub_env (sube_cons rfl (sube_cons rfl (sube_cons rfl (sube_nil))))))
    refine den_seq ?_
    refine den_seq ?_
    refine den_region rfl ?_
    refine o_move rfl rfl guard_none (look_tmp rfl) (fun _ => rfl) ?_
    refine o_move rfl rfl guard_none (look_tmp rfl) (fun _ => rfl) ?_
    refine o_llen Tryd.underlying33 rfl rfl guard_none (look_tmp rfl) (fun _ => rfl) ?_
    refine o_lss rfl rfl guard_none (look_tmp rfl) (look_tmp rfl) (fun _ => rfl) (fun _ => rfl) ?_
    refine o_end ?_
    refine den_cond (look_tmp rfl) ?_ ?_
    · refine den_skip ?_
      refine den_seq ?_
      refine den_block ?_
      refine den_seq ?_
      refine den_seq ?_
      refine den_region rfl ?_
      refine o_move rfl rfl guard_none (look_tmp rfl) (fun _ => rfl) ?_
      refine o_gtr rfl rfl guard_none (look_tmp rfl) (look_int rfl) (fun _ => rfl) (fun _ => rfl) ?_
      refine o_end ?_
      refine den_cond (look_tmp rfl) ?_ ?_
      · refine den_region rfl ?_
        refine o_move rfl rfl guard_none (look_tmp rfl) (fun _ => rfl) ?_
        refine o_sadd rfl rfl (look_tmp rfl) (look_str (l := [44, 32]) rfl (by decide)) rfl rfl (fun z3 => ?_)
        refine o_assign rfl rfl guard_none (look_tmp rfl) (fun _ => rfl) ?_
        refine o_end ?_
        refine den_region rfl ?_
        refine o_move rfl rfl guard_none (look_tmp rfl) (fun _ => rfl) ?_
        refine o_move rfl rfl guard_none (look_tmp rfl) (fun _ => rfl) ?_
        refine o_move rfl rfl guard_none (look_tmp rfl) (fun _ => rfl) ?_
        refine o_iaddr Tryd.underlying33 type35 rfl rfl (look_tmp rfl) (look_tmp rfl) rfl rfl (fun z4 => ?_)
        refine o_load type35 rfl rfl guard_none (look_tmp rfl) (fun _ => rfl) ?_
        refine o_call rfl rfl rfl callable12 (looks_cons (look_tmp rfl) (fun _ => rfl) (looks_nil)) (hrec_ref09_Expr _) (fun z5 => ?_)
        refine o_sadd rfl rfl (look_tmp rfl) (look_tmp rfl) rfl rfl (fun z6 => ?_)
        refine o_assign rfl rfl guard_none (look_tmp rfl) (fun _ => rfl) ?_
        refine o_end ?_
        refine den_blkend ?_
        refine den_region rfl ?_
        refine o_move rfl rfl guard_none (look_tmp rfl) (fun _ => rfl) ?_
        refine o_add rfl rfl guard_none (look_tmp rfl) (look_int rfl) (fun _ => rfl) (fun _ => rfl) ?_
        refine o_assign rfl rfl guard_none (look_tmp rfl) (fun _ => rfl) ?_
        refine o_end ?_
        refine den_next ((sub_env (sube_cons rfl (sube_cons rfl (sube_cons rfl (sube_nil))))))
      · refine den_skip ?_
        refine den_region rfl ?_
        refine o_move rfl rfl guard_none (look_tmp rfl) (fun _ => rfl) ?_
        refine o_move rfl rfl guard_none (look_tmp rfl) (fun _ => rfl) ?_
        refine o_move rfl rfl guard_none (look_tmp rfl) (fun _ => rfl) ?_
        refine o_iaddr Tryd.underlying33 type35 rfl rfl (look_tmp rfl) (look_tmp rfl) rfl rfl (fun z7 => ?_)
        refine o_load type35 rfl rfl guard_none (look_tmp rfl) (fun _ => rfl) ?_
        refine o_call rfl rfl rfl callable12 (looks_cons (look_tmp rfl) (fun _ => rfl) (looks_nil)) (hrec_ref09_Expr _) (fun z8 => ?_)
        refine o_sadd rfl rfl (look_tmp rfl) (look_tmp rfl) rfl rfl (fun z9 => ?_)
        refine o_assign rfl rfl guard_none (look_tmp rfl) (fun _ => rfl) ?_
        refine o_end ?_
        refine den_blkend ?_
        refine den_region rfl ?_
        refine o_move rfl rfl guard_none (look_tmp rfl) (fun _ => rfl) ?_
        refine o_add rfl rfl guard_none (look_tmp rfl) (look_int rfl) (fun _ => rfl) (fun _ => rfl) ?_
        refine o_assign rfl rfl guard_none (look_tmp rfl) (fun _ => rfl) ?_
        refine o_end ?_
        refine den_next ((sub_env (sube_cons rfl (sube_cons rfl (sube_cons rfl (sube_nil))))))
    · refine den_code_exit ?_
      refine dene_out rfl ?_
      refine dene_loop (by simp) ?_
      refine dene_to rfl ?_
      refine den_end ((sub_env (sube_cons rfl (sube_nil))))
  refine den_seq ?_
  refine den_region rfl ?_
  refine o_move rfl rfl guard_none (look_tmp rfl) (fun _ => rfl) ?_
  refine o_assign rfl rfl guard_none (look_tmp rfl) (fun _ => rfl) ?_
  refine o_end ?_
  refine den_code_ret ?_
  exact dene_res (res1 rfl (rv_tmp rfl))

theorem grp_ref09_Expr_ok (N n : Nat) : (∀ (e_0 : T_api_Expr), FunOk Tryd.prog 12 [⟨T_api_Expr_rep, e_0, true⟩] ((grp_ref09_Expr N n).1 e_0) (Rep.str)) ∧ (∀ (l_0 : (List T_api_Expr)), FunOk Tryd.prog 26 [⟨(T_api_Expr_rep).slice, l_0, true⟩] ((grp_ref09_Expr N n).2 l_0) (Rep.str)) := by
  induction n with
  | zero => exact ⟨by intros; exact fun_none, by intros; exact fun_none⟩
  | succ n ih => exact ⟨ref09_Expr_rec_ok N _ _ ih.1 ih.2, ref09_list_rec_ok N _ ih.1⟩
theorem ref09_Expr_ok (N n : Nat) : ∀ (e_0 : T_api_Expr), FunOk Tryd.prog 12 [⟨T_api_Expr_rep, e_0, true⟩] (ref09_Expr N n e_0) (Rep.str) := (grp_ref09_Expr_ok N n).1
theorem ref09_list_ok (N n : Nat) : ∀ (l_0 : (List T_api_Expr)), FunOk Tryd.prog 26 [⟨(T_api_Expr_rep).slice, l_0, true⟩] (ref09_list N n l_0) (Rep.str) := (grp_ref09_Expr_ok N n).2

theorem law37_counted_v0_ok (val0 : Value) (l_0 : (List Bytes)) (word_1 : Bytes) (n_2 : Int) : FunOkI Tryd.prog 13 [⟨.val1, val0, true⟩, ⟨Rep.str, word_1, true⟩, ⟨Rep.int .i64, n_2, true⟩] [.vec val0 (Rep.str) l_0] (law37_counted_v0 l_0 word_1 n_2) (Rep.val1) (fun (α : Value) (y : (List Bytes)) => α) (fun α y => [.vec α (Rep.str) y]) := by
  refine fun_okI Tryd.func13 rfl Tryd.ntmps13 rfl (all_cons rfl (all_cons rfl (all_cons rfl all_nil))) (fun w0 ok0 M => ?_)
  refine den_seq ?_
  refine den_region rfl ?_
  refine o_assign rfl rfl guard_none look_nil1 (fun _ => rfl) ?_
  refine o_end ?_
  refine den_seq ?_
  refine den_seq ?_
  refine den_region rfl ?_
  refine o_move rfl rfl guard_none (look_tmp rfl) (fun _ => rfl) ?_
  refine o_gtr rfl rfl guard_none (look_tmp rfl) (look_int rfl) (fun _ => rfl) (fun _ => rfl) ?_
  refine o_end ?_
  refine den_cond (look_tmp rfl) ?_ ?_
  · refine den_region rfl ?_
    refine o_move rfl rfl guard_none (look_tmp rfl) (fun _ => rfl) ?_
    refine o_move rfl rfl guard_none (look_tmp rfl) (fun _ => rfl) ?_
    refine o_sadd rfl rfl (look_tmp rfl) (look_str (l := [32]) rfl (by decide)) rfl rfl (fun z1 => ?_)
    refine o_move rfl rfl guard_none (look_tmp rfl) (fun _ => rfl) ?_
    refine o_call rfl rfl rfl callable6 (looks_cons (look_tmp rfl) (fun _ => rfl) (looks_nil)) (ref01_Decimal_ok _) (fun z2 => ?_)
    refine o_sadd rfl rfl (look_tmp rfl) (look_tmp rfl) rfl rfl (fun z3 => ?_)
    refine o_bslice Tryd.underlying41 (info_i info9) (info_z info9) type9 rfl rfl rfl rfl rfl rfl guard_none (looksL_cons (look_tmp rfl) (fun _ => rfl) (looksL_nil)) ?_
    refine o_append Tryd.underlying41 (info_i info9) (info_z info9) (info_all info9).2.1 rfl (info_all info9).2.2 rfl (look_tmp rfl) rfl (feeds_slice Tryd.underlying41 rfl (look_tmp rfl) rfl) (fun z5 z4 => ?_)
    refine o_assign rfl rfl guard_none (look_tmp rfl) (fun _ => rfl) ?_
    refine o_end ?_
    refine den_seq ?_
    refine den_region rfl ?_
    refine o_move rfl rfl guard_none (look_tmp rfl) (fun _ => rfl) ?_
    refine o_assign rfl rfl guard_none (look_tmp rfl) (fun _ => rfl) ?_
    refine o_end ?_
    refine den_code_ret ?_
    exact dene_resI z5 (res1 rfl (rv_tmp rfl)) (fun _ _ _ k => ato_pick [0] rfl rfl k)
  · refine den_skip ?_
    refine den_seq ?_
    refine den_region rfl ?_
    refine o_move rfl rfl guard_none (look_tmp rfl) (fun _ => rfl) ?_
    refine o_assign rfl rfl guard_none (look_tmp rfl) (fun _ => rfl) ?_
    refine o_end ?_
    refine den_code_ret ?_
    exact dene_resI val0 (res1 rfl (rv_tmp rfl)) (fun _ _ _ k => ato_pick [0] rfl rfl k)

theorem plain_Texts_ok  (a_0 : (List Bytes)) (b_1 : (List Bytes)) : FunOk Tryd.prog 14 [⟨(Rep.str).slice, a_0, true⟩, ⟨(Rep.str).slice, b_1, true⟩] (plain_Texts a_0 b_1) (Rep.bool) := by
  refine fun_ok Tryd.func14 rfl Tryd.ntmps14 rfl (all_cons rfl (all_cons rfl all_nil)) (fun w0 ok0 => ?_)
  refine den_seq ?_
  refine den_region rfl ?_
  refine o_assign rfl rfl guard_none look_bool (fun _ => rfl) ?_
  refine o_end ?_
  refine den_seq ?_
  refine den_seq ?_
  refine den_region rfl ?_
  refine o_move rfl rfl guard_none (look_tmp rfl) (fun _ => rfl) ?_
  refine o_llen Tryd.underlying41 rfl rfl guard_none (look_tmp rfl) (fun _ => rfl) ?_
  refine o_move rfl rfl guard_none (look_tmp rfl) (fun _ => rfl) ?_
  refine o_llen Tryd.underlying41 rfl rfl guard_none (look_tmp rfl) (fun _ => rfl) ?_
  refine o_neq rfl rfl guard_none (look_tmp rfl) (look_tmp rfl) (fun _ => rfl) (fun _ => rfl) ?_
  refine o_end ?_
  refine den_cond (look_tmp rfl) ?_ ?_
  · refine den_seq ?_
    refine den_region rfl ?_
    refine o_assign rfl rfl guard_none look_bool (fun _ => rfl) ?_
    refine o_end ?_
    refine den_code_ret ?_
    refine dene_ret ?_
    exact dene_res (res1 rfl (rv_tmp rfl))
  · refine den_skip ?_
    refine den_seq ?_
    refine den_seq ?_
    refine den_region rfl ?_
    refine o_assign rfl rfl guard_none (look_int rfl) (fun _ => rfl) ?_
    refine o_end ?_
    refine den_both (fun z1 => []) (fun z1 => []) ?_ (fun z1 => ?_)
    · refine den_block ?_
      refine den_loop (plain_Texts_L1b a_0 b_1) (fun z2 => [(5, ⟨Rep.int .i64, z2, true⟩), (0, ⟨(Rep.str).slice, a_0, true⟩), (1, ⟨(Rep.str).slice, b_1, true⟩)]) (fun z2 => []) 0 (fun z2 => ?_) ((sub_env (sube_cons rfl (sube_cons rfl (sube_cons rfl (sube_nil))))))
      refine den_seq ?_
      refine den_seq ?_
      refine den_region rfl ?_
      refine o_move rfl rfl guard_none (look_tmp rfl) (fun _ => rfl) ?_
      refine o_move rfl rfl guard_none (look_tmp rfl) (fun _ => rfl) ?_
      refine o_llen Tryd.underlying41 rfl rfl guard_none (look_tmp rfl) (fun _ => rfl) ?_
      refine o_lss rfl rfl guard_none (look_tmp rfl) (look_tmp rfl) (fun _ => rfl) (fun _ => rfl) ?_
      refine o_end ?_
      refine den_cond (look_tmp rfl) ?_ ?_
      · refine den_skip ?_
        refine den_seq ?_
        refine den_block ?_
        refine den_seq ?_
        refine den_open (fun z3 h_z3 => ?_)
        refine den_open (fun z4 h_z4 => ?_)
        refine den_draw [(17, ⟨(Rep.str).slice, a_0, true⟩), (18, ⟨Rep.int .i64, z2, true⟩), (19, ⟨(Rep.str).ptrTo, z3, true⟩), (20, ⟨Rep.str, z3, true⟩), (21, ⟨(Rep.str).slice, b_1, true⟩), (22, ⟨Rep.int .i64, z2, true⟩), (23, ⟨(Rep.str).ptrTo, z4, true⟩), (24, ⟨Rep.str, z4, true⟩), (25, ⟨Rep.bool, z3 != z4, true⟩)] mixed rfl rfl ⟨?_, ?_, ?_, ?_, ?_, ?_, ?_, ?_, ?_, trivial⟩ ?_
        · intro S hc hk hp
          refine o_move rfl rfl guard_none (look_o rfl rfl) (fun _ => rfl) ?_
          exact d_end rfl rfl rfl
        · intro S hc hk hp
          refine o_move rfl rfl guard_none (look_o rfl rfl) (fun _ => rfl) ?_
          exact d_end rfl rfl rfl
        · intro S hc hk hp
          refine o_from (bind_eqO h_z3) ?_
          refine o_iaddr Tryd.underlying41 type9 rfl rfl (look_d rfl rfl (pr hp 0 rfl rfl)) (look_d rfl rfl (pr hp 1 rfl rfl)) rfl rfl (o_eqO ?_)
          exact d_end rfl rfl rfl
        · intro S hc hk hp
          refine o_load type9 rfl rfl guard_none (look_d rfl rfl (pr hp 0 rfl rfl)) (fun _ => rfl) ?_
          exact d_end rfl rfl rfl
        · intro S hc hk hp
          refine o_move rfl rfl guard_none (look_o rfl rfl) (fun _ => rfl) ?_
          exact d_end rfl rfl rfl
        · intro S hc hk hp
          refine o_move rfl rfl guard_none (look_o rfl rfl) (fun _ => rfl) ?_
          exact d_end rfl rfl rfl
        · intro S hc hk hp
          refine o_from (bind_eqO h_z4) ?_
          refine o_iaddr Tryd.underlying41 type9 rfl rfl (look_d rfl rfl (pr hp 0 rfl rfl)) (look_d rfl rfl (pr hp 1 rfl rfl)) rfl rfl (o_eqO ?_)
          exact d_end rfl rfl rfl
        · intro S hc hk hp
          refine o_load type9 rfl rfl guard_none (look_d rfl rfl (pr hp 0 rfl rfl)) (fun _ => rfl) ?_
          exact d_end rfl rfl rfl
        · intro S hc hk hp
          refine o_sneq rfl rfl guard_none (look_d rfl rfl (pr hp 0 rfl rfl)) (look_d rfl rfl (pr hp 1 rfl rfl)) (fun _ => rfl) (fun _ => rfl) ?_
          exact d_end rfl rfl rfl
        refine den_cond (look_tmp rfl) ?_ ?_
        · refine den_seq ?_
          refine den_region rfl ?_
          refine o_assign rfl rfl guard_none look_bool (fun _ => rfl) ?_
          refine o_end ?_
          refine den_code_ret ?_
          refine dene_ret ?_
          refine dene_loop (by simp) ?_
          refine dene_ret ?_
          refine dene_both (by simp) ?_
          refine dene_ret ?_
          exact dene_res (res1 rfl (rv_tmp rfl))
        · refine den_skip ?_
          refine den_blkend ?_
          refine den_region rfl ?_
          refine o_move rfl rfl guard_none (look_tmp rfl) (fun _ => rfl) ?_
          refine o_add rfl rfl guard_none (look_tmp rfl) (look_int rfl) (fun _ => rfl) (fun _ => rfl) ?_
          refine o_assign rfl rfl guard_none (look_tmp rfl) (fun _ => rfl) ?_
          refine o_end ?_
          refine den_next ((sub_env (sube_cons rfl (sube_cons rfl (sube_cons rfl (sube_nil))))))
      · refine den_code_exit ?_
        refine dene_out rfl ?_
        refine dene_loop (by simp) ?_
        refine dene_to rfl ?_
        refine den_endl ((sub_env (sube_nil)))
    refine den_seq ?_
    refine den_region rfl ?_
    refine o_assign rfl rfl guard_none look_bool (fun _ => rfl) ?_
    refine o_end ?_
    refine den_code_ret ?_
    exact dene_res (res1 rfl (rv_tmp rfl))

theorem law37_OutlineRights_ok (fuel : Nat)  (r_0 : T_api_Right) : FunOkI Tryd.prog 4 [⟨T_api_Right_rep, r_0, true⟩] [.obj false 0 0 (gfact 0 (Rep.arr 6 (Rep.str)) glob0) ()] (law37_OutlineRights fuel r_0) (Rep.bool) (fun (α : Unit) (y : Bool) => y) (fun α y => []) := by
  refine fun_okI Tryd.func4 rfl Tryd.ntmps4 rfl (all_cons rfl all_nil) (fun w0 ok0 M => ?_)
  refine den_seq ?_
  refine den_region rfl ?_
  refine o_box rfl rfl (look_tmp rfl) rfl (fun z1 => ?_)
  refine o_assign rfl rfl guard_none look_bool (fun _ => rfl) ?_
  refine o_end ?_
  refine den_seq ?_
  refine den_seq ?_
  refine den_region rfl ?_
  refine o_weak (H' := [] ++ ([.obj false 0 0 (gfact 0 (Rep.arr 6 (Rep.str)) glob0) ()] ++ [.obj true z1 0 (.dat T_api_Right_rep) r_0])) (sub_pick [1, 0] rfl rfl) ?_
  refine o_callU rfl rfl rfl rfl rfl callable5 (looks_nil) (.cons .nil) (law37_alive_ok fuel ) (fun _ _ => wr_n) (fun z3α z2 => ?_)
  refine o_weak (H' := [.obj false 0 0 (gfact 0 (Rep.arr 6 (Rep.str)) glob0) (), .obj true z1 0 (.dat T_api_Right_rep) r_0]) (sub_pick [0, 1] rfl rfl) ?_
  refine o_not rfl rfl guard_none (look_tmp rfl) (fun _ => rfl) ?_
  refine o_end ?_
  refine den_cond (look_tmp rfl) ?_ ?_
  · refine den_seq ?_
    refine den_region rfl ?_
    refine o_assign rfl rfl guard_none look_bool (fun _ => rfl) ?_
    refine o_end ?_
    refine den_code_ret ?_
    refine dene_ret ?_
    exact dene_resI () (res1 rfl (rv_tmp rfl)) (fun _ _ _ k => ato_pick [] rfl rfl k)
  · refine den_skip ?_
    refine den_seq ?_
    refine den_seq ?_
    refine den_region rfl ?_
    refine o_faddr field39_1 type35 (by decide) rfl rfl guard_none (look_tmp rfl) (fun _ => rfl) ?_
    refine o_oloadi 1 rfl type35 T_api_Right_foc1 rfl guard_none (look_tmp rfl) (fun _ => rfl) ?_
    refine o_call rfl rfl rfl callable10 (looks_cons (look_tmp rfl) (fun _ => rfl) (looks_nil)) (ref07_Check_ok fuel _) (fun z4 => ?_)
    refine o_neq rfl rfl guard_none (look_tmp rfl) (look_int rfl) (fun _ => rfl) (fun _ => rfl) ?_
    refine o_move rfl rfl guard_none (look_tmp rfl) (fun _ => rfl) ?_
    refine o_faddr field39_2 type35 (by decide) rfl rfl (guard_some rfl rfl rfl) (look_tmp rfl) (fun _ => rfl) ?_
    refine o_oloadi 1 rfl type35 T_api_Right_foc2 rfl (guard_some rfl rfl rfl) (look_tmp rfl) (fun h => h) ?_
    refine o_callg rfl rfl rfl (guard_some rfl rfl rfl) callable10 (looks_cons (look_tmp rfl) (fun h => h) (looks_nil)) (ref07_Check_ok fuel _) (fun z5 => ?_)
    refine o_neq rfl rfl (guard_some rfl rfl rfl) (look_tmp rfl) (look_int rfl) (fun h => h) (fun _ => rfl) ?_
    refine o_pick rfl rfl guard_none (look_tmp rfl) look_bool (look_tmp rfl) (fun _ => rfl) (fun _ _ => rfl) (fun h1 h2 => pick_f ((fun _ => rfl) h1) h2) ?_
    refine o_end ?_
    refine den_cond (look_tmp rfl) ?_ ?_
    · refine den_seq ?_
      refine den_region rfl ?_
      refine o_assign rfl rfl guard_none look_bool (fun _ => rfl) ?_
      refine o_end ?_
      refine den_code_ret ?_
      refine dene_ret ?_
      exact dene_resI () (res1 rfl (rv_tmp rfl)) (fun _ _ _ k => ato_pick [] rfl rfl k)
    · refine den_skip ?_
      refine den_seq ?_
      refine den_region rfl ?_
      refine o_faddr field39_0 type9 (by decide) rfl rfl guard_none (look_tmp rfl) (fun _ => rfl) ?_
      refine o_oloadi 1 rfl type9 T_api_Right_foc0 rfl guard_none (look_tmp rfl) (fun _ => rfl) ?_
      refine o_bvecn Tryd.underlying41 (info_i info9) (info_z info9) type9 rfl rfl rfl rfl rfl (looksL_cons (look_tmp rfl) (fun _ => rfl) (looksL_nil)) (fun z6 => ?_)
      refine o_assign rfl rfl guard_none (look_tmp rfl) (fun _ => rfl) ?_
      refine o_end ?_
      refine den_seq ?_
      refine den_seq ?_
      refine den_region rfl ?_
      refine o_faddr field39_1 type35 (by decide) rfl rfl guard_none (look_tmp rfl) (fun _ => rfl) ?_
      refine o_oloadi 2 rfl type35 T_api_Right_foc1 rfl guard_none (look_tmp rfl) (fun _ => rfl) ?_
      refine o_call rfl rfl rfl callable11 (looks_cons (look_tmp rfl) (fun _ => rfl) (looks_nil)) (law37_truth_ok _) (fun z7 => ?_)
      refine o_not rfl rfl guard_none (look_tmp rfl) (fun _ => rfl) ?_
      refine o_end ?_
      refine den_bindA (A := Value) (fun z8α z8 => [(1, ⟨Rep.addr, (z1, 0), true⟩), (3, ⟨Rep.val1, z8α, true⟩)]) (fun z8α z8 => [.obj false 0 0 (gfact 0 (Rep.arr 6 (Rep.str)) glob0) (), .obj true z1 0 (.dat T_api_Right_rep) r_0, .vec z8α (Rep.str) z8]) ?_ (fun z8α z8 => ?_)
      · refine den_cond (look_tmp rfl) ?_ ?_
        · refine den_region rfl ?_
          refine o_move rfl rfl guard_none (look_tmp rfl) (fun _ => rfl) ?_
          refine o_faddr field39_1 type35 (by decide) rfl rfl guard_none (look_tmp rfl) (fun _ => rfl) ?_
          refine o_oloadi 2 rfl type35 T_api_Right_foc1 rfl guard_none (look_tmp rfl) (fun _ => rfl) ?_
          refine o_call rfl rfl rfl callable12 (looks_cons (look_tmp rfl) (fun _ => rfl) (looks_nil)) (ref09_Expr_ok fuel fuel _) (fun z31 => ?_)
          refine o_sadd rfl rfl (look_str (l := [112, 114, 101, 32]) rfl (by decide)) (look_tmp rfl) rfl rfl (fun z32 => ?_)
          refine o_bslice Tryd.underlying41 (info_i info9) (info_z info9) type9 rfl rfl rfl rfl rfl rfl guard_none (looksL_cons (look_tmp rfl) (fun _ => rfl) (looksL_nil)) ?_
          refine o_append Tryd.underlying41 (info_i info9) (info_z info9) (info_all info9).2.1 rfl (info_all info9).2.2 rfl (look_tmp rfl) rfl (feeds_slice Tryd.underlying41 rfl (look_tmp rfl) rfl) (fun z34 z33 => ?_)
          refine o_assign rfl rfl guard_none (look_tmp rfl) (fun _ => rfl) ?_
          refine o_end ?_
          refine den_endA z34 ((Sub.trans (sub_pick [1, 2, 0] rfl rfl) (sub_env (sube_cons rfl (sube_cons rfl (sube_nil))))))
        · refine den_skip ?_
          refine den_endA z6 ((Sub.trans (sub_pick [1, 2, 0] rfl rfl) (sub_env (sube_cons rfl (sube_cons rfl (sube_nil))))))
      refine den_seq ?_
      refine den_seq ?_
      refine den_region rfl ?_
      refine o_faddr field39_2 type35 (by decide) rfl rfl guard_none (look_tmp rfl) (fun _ => rfl) ?_
      refine o_oloadi 1 rfl type35 T_api_Right_foc2 rfl guard_none (look_tmp rfl) (fun _ => rfl) ?_
      refine o_call rfl rfl rfl callable11 (looks_cons (look_tmp rfl) (fun _ => rfl) (looks_nil)) (law37_truth_ok _) (fun z9 => ?_)
      refine o_not rfl rfl guard_none (look_tmp rfl) (fun _ => rfl) ?_
      refine o_end ?_
      refine den_bindA (A := Value) (fun z10α z10 => [(1, ⟨Rep.addr, (z1, 0), true⟩), (3, ⟨Rep.val1, z10α, true⟩)]) (fun z10α z10 => [.obj false 0 0 (gfact 0 (Rep.arr 6 (Rep.str)) glob0) (), .obj true z1 0 (.dat T_api_Right_rep) r_0, .vec z10α (Rep.str) z10]) ?_ (fun z10α z10 => ?_)
      · refine den_cond (look_tmp rfl) ?_ ?_
        · refine den_region rfl ?_
          refine o_move rfl rfl guard_none (look_tmp rfl) (fun _ => rfl) ?_
          refine o_faddr field39_2 type35 (by decide) rfl rfl guard_none (look_tmp rfl) (fun _ => rfl) ?_
          refine o_oloadi 1 rfl type35 T_api_Right_foc2 rfl guard_none (look_tmp rfl) (fun _ => rfl) ?_
          refine o_call rfl rfl rfl callable12 (looks_cons (look_tmp rfl) (fun _ => rfl) (looks_nil)) (ref09_Expr_ok fuel fuel _) (fun z27 => ?_)
          refine o_sadd rfl rfl (look_str (l := [111, 110, 32]) rfl (by decide)) (look_tmp rfl) rfl rfl (fun z28 => ?_)
          refine o_bslice Tryd.underlying41 (info_i info9) (info_z info9) type9 rfl rfl rfl rfl rfl rfl guard_none (looksL_cons (look_tmp rfl) (fun _ => rfl) (looksL_nil)) ?_
          refine o_weak (H' := [.vec z8α (Rep.str) z8, .obj false 0 0 (gfact 0 (Rep.arr 6 (Rep.str)) glob0) (), .obj true z1 0 (.dat T_api_Right_rep) r_0]) (sub_pick [2, 0, 1] rfl rfl) ?_
          refine o_append Tryd.underlying41 (info_i info9) (info_z info9) (info_all info9).2.1 rfl (info_all info9).2.2 rfl (look_tmp rfl) rfl (feeds_slice Tryd.underlying41 rfl (look_tmp rfl) rfl) (fun z30 z29 => ?_)
          refine o_assign rfl rfl guard_none (look_tmp rfl) (fun _ => rfl) ?_
          refine o_end ?_
          refine den_endA z30 ((Sub.trans (sub_pick [1, 2, 0] rfl rfl) (sub_env (sube_cons rfl (sube_cons rfl (sube_nil))))))
        · refine den_skip ?_
          refine den_endA z8α ((sub_env (sube_cons rfl (sube_cons rfl (sube_nil)))))
      refine den_seq ?_
      refine den_region rfl ?_
      refine o_move rfl rfl guard_none (look_tmp rfl) (fun _ => rfl) ?_
      refine o_faddr field39_3 type36 (by decide) rfl rfl guard_none (look_tmp rfl) (fun _ => rfl) ?_
      refine o_oloadi 1 rfl type36 T_api_Right_foc3 rfl guard_none (look_tmp rfl) (fun _ => rfl) ?_
      refine o_llen Tryd.underlying36 rfl rfl guard_none (look_tmp rfl) (fun _ => rfl) ?_
      refine o_weak (H' := [.vec z10α (Rep.str) z10] ++ ([] ++ [.obj false 0 0 (gfact 0 (Rep.arr 6 (Rep.str)) glob0) (), .obj true z1 0 (.dat T_api_Right_rep) r_0])) (sub_pick [2, 0, 1] rfl rfl) ?_
      refine o_callU rfl rfl rfl rfl rfl callable13 (looks_cons (look_tmp rfl) (fun _ => rfl) (looks_cons (look_str (l := [98, 101, 102, 111, 114, 101]) rfl (by decide)) (fun _ => rfl) (looks_cons (look_tmp rfl) (fun _ => rfl) (looks_nil)))) .nil (law37_counted_v0_ok _ z10 ([98, 101, 102, 111, 114, 101] : Bytes) (r_0.Before.length : Int)) (fun _ _ => (wr_v wr_n)) (fun z12α z11 => ?_)
      refine o_weak (H' := [.vec z12α (Rep.str) z11, .obj false 0 0 (gfact 0 (Rep.arr 6 (Rep.str)) glob0) (), .obj true z1 0 (.dat T_api_Right_rep) r_0]) (sub_pick [0, 1, 2] rfl rfl) ?_
      refine o_assign rfl rfl guard_none (look_tmp rfl) (fun _ => rfl) ?_
      refine o_end ?_
      refine den_seq ?_
      refine den_region rfl ?_
      refine o_move rfl rfl guard_none (look_tmp rfl) (fun _ => rfl) ?_
      refine o_faddr field39_4 type36 (by decide) rfl rfl guard_none (look_tmp rfl) (fun _ => rfl) ?_
      refine o_oloadi 2 rfl type36 T_api_Right_foc4 rfl guard_none (look_tmp rfl) (fun _ => rfl) ?_
      refine o_llen Tryd.underlying36 rfl rfl guard_none (look_tmp rfl) (fun _ => rfl) ?_
      refine o_weak (H' := [.vec z12α (Rep.str) z11] ++ ([] ++ [.obj false 0 0 (gfact 0 (Rep.arr 6 (Rep.str)) glob0) (), .obj true z1 0 (.dat T_api_Right_rep) r_0])) (sub_pick [0, 1, 2] rfl rfl) ?_
      refine o_callU rfl rfl rfl rfl rfl callable13 (looks_cons (look_tmp rfl) (fun _ => rfl) (looks_cons (look_str (l := [100, 117, 114, 105, 110, 103]) rfl (by decide)) (fun _ => rfl) (looks_cons (look_tmp rfl) (fun _ => rfl) (looks_nil)))) .nil (law37_counted_v0_ok _ z11 ([100, 117, 114, 105, 110, 103] : Bytes) (r_0.During.length : Int)) (fun _ _ => (wr_v wr_n)) (fun z15α z14 => ?_)
      refine o_weak (H' := [.vec z15α (Rep.str) z14, .obj false 0 0 (gfact 0 (Rep.arr 6 (Rep.str)) glob0) (), .obj true z1 0 (.dat T_api_Right_rep) r_0]) (sub_pick [0, 1, 2] rfl rfl) ?_
      refine o_assign rfl rfl guard_none (look_tmp rfl) (fun _ => rfl) ?_
      refine o_end ?_
      refine den_seq ?_
      refine den_region rfl ?_
      refine o_move rfl rfl guard_none (look_tmp rfl) (fun _ => rfl) ?_
      refine o_faddr field39_5 type36 (by decide) rfl rfl guard_none (look_tmp rfl) (fun _ => rfl) ?_
      refine o_oloadi 2 rfl type36 T_api_Right_foc5 rfl guard_none (look_tmp rfl) (fun _ => rfl) ?_
      refine o_llen Tryd.underlying36 rfl rfl guard_none (look_tmp rfl) (fun _ => rfl) ?_
      refine o_weak (H' := [.vec z15α (Rep.str) z14] ++ ([] ++ [.obj false 0 0 (gfact 0 (Rep.arr 6 (Rep.str)) glob0) (), .obj true z1 0 (.dat T_api_Right_rep) r_0])) (sub_pick [0, 1, 2] rfl rfl) ?_
      refine o_callU rfl rfl rfl rfl rfl callable13 (looks_cons (look_tmp rfl) (fun _ => rfl) (looks_cons (look_str (l := [97, 102, 116, 101, 114]) rfl (by decide)) (fun _ => rfl) (looks_cons (look_tmp rfl) (fun _ => rfl) (looks_nil)))) .nil (law37_counted_v0_ok _ z14 ([97, 102, 116, 101, 114] : Bytes) (r_0.After.length : Int)) (fun _ _ => (wr_v wr_n)) (fun z18α z17 => ?_)
      refine o_weak (H' := [.vec z18α (Rep.str) z17, .obj false 0 0 (gfact 0 (Rep.arr 6 (Rep.str)) glob0) (), .obj true z1 0 (.dat T_api_Right_rep) r_0]) (sub_pick [0, 1, 2] rfl rfl) ?_
      refine o_assign rfl rfl guard_none (look_tmp rfl) (fun _ => rfl) ?_
      refine o_end ?_
      refine den_seq ?_
      refine den_region rfl ?_
      refine o_move rfl rfl guard_none (look_tmp rfl) (fun _ => rfl) ?_
      refine o_faddr field39_6 type37 (by decide) rfl rfl guard_none (look_tmp rfl) (fun _ => rfl) ?_
      refine o_oloadi 2 rfl type37 T_api_Right_foc6 rfl guard_none (look_tmp rfl) (fun _ => rfl) ?_
      refine o_llen Tryd.underlying37 rfl rfl guard_none (look_tmp rfl) (fun _ => rfl) ?_
      refine o_weak (H' := [.vec z18α (Rep.str) z17] ++ ([] ++ [.obj false 0 0 (gfact 0 (Rep.arr 6 (Rep.str)) glob0) (), .obj true z1 0 (.dat T_api_Right_rep) r_0])) (sub_pick [0, 1, 2] rfl rfl) ?_
      refine o_callU rfl rfl rfl rfl rfl callable13 (looks_cons (look_tmp rfl) (fun _ => rfl) (looks_cons (look_str (l := [100, 117, 116, 105, 101, 115]) rfl (by decide)) (fun _ => rfl) (looks_cons (look_tmp rfl) (fun _ => rfl) (looks_nil)))) .nil (law37_counted_v0_ok _ z17 ([100, 117, 116, 105, 101, 115] : Bytes) (r_0.Duties.length : Int)) (fun _ _ => (wr_v wr_n)) (fun z21α z20 => ?_)
      refine o_weak (H' := [.vec z21α (Rep.str) z20, .obj false 0 0 (gfact 0 (Rep.arr 6 (Rep.str)) glob0) (), .obj true z1 0 (.dat T_api_Right_rep) r_0]) (sub_pick [0, 1, 2] rfl rfl) ?_
      refine o_assign rfl rfl guard_none (look_tmp rfl) (fun _ => rfl) ?_
      refine o_end ?_
      refine den_seq ?_
      refine den_region rfl ?_
      refine o_oloadi 2 rfl type39 foc_self rfl guard_none (look_tmp rfl) (fun _ => rfl) ?_
      refine o_weak (H' := [] ++ ([] ++ [.vec z21α (Rep.str) z20, .obj false 0 0 (gfact 0 (Rep.arr 6 (Rep.str)) glob0) (), .obj true z1 0 (.dat T_api_Right_rep) r_0])) (sub_pick [0, 1, 2] rfl rfl) ?_
      refine o_callU rfl rfl rfl rfl rfl callable15 (looks_cons (look_tmp rfl) (fun _ => rfl) (looks_nil)) .nil (outline_Right_ok fuel r_0) (fun _ _ => (wr_v wr_n)) (fun z24α z23 => ?_)
      refine o_weak (H' := [.vec z24α (Rep.str) z23, .vec z21α (Rep.str) z20, .obj false 0 0 (gfact 0 (Rep.arr 6 (Rep.str)) glob0) (), .obj true z1 0 (.dat T_api_Right_rep) r_0]) (sub_pick [0, 1, 2, 3] rfl rfl) ?_
      refine o_move rfl rfl guard_none (look_tmp rfl) (fun _ => rfl) ?_
      refine o_lend1 false rfl rfl rfl rfl guard_none callable14 (looksM_l 0 rfl (lookl_wholeg (.inl rfl) (look_tmp rfl) (fun _ => rfl)) (looksM_l 1 rfl (lookl_wholeg (.inl rfl) (look_tmp rfl) (fun _ => rfl)) (looksM_nil))) fl_bool (plain_Texts_ok _ _) (fun z26 => ?_)
      refine o_assign rfl rfl guard_none (look_tmp rfl) (fun _ => rfl) ?_
      refine o_end ?_
      refine den_code_ret ?_
      exact dene_resI () (res1 rfl (rv_tmp rfl)) (fun _ _ _ k => ato_pick [] rfl rfl k)

end Go.Proofs.YtcmkbaoeacingaaDoor.M
