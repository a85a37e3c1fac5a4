/- That the Go functions answer as the plain ones: written by gen2.py. -/
import Derived.Test.YtmcmdfcdnflpmaaOks1
namespace Go.Proofs.Ytmcmdfcdnflpmaa.M
open Go.Eng Go
set_option linter.unusedVariables false

theorem ref09_leaf_ok  (e_0 : T_api_Expr) : FunOk Try.prog 38 [⟨T_api_Expr_rep, e_0, true⟩] (ref09_leaf e_0) (Rep.str) := by
  refine fun_ok Try.func38 rfl Try.ntmps38 rfl (all_cons rfl all_nil) (fun w0 ok0 => ?_)
  refine den_seq ?_
  refine den_region rfl ?_
  refine o_box rfl rfl (look_tmp rfl) rfl (fun z1 => ?_)
  refine o_assign rfl rfl guard_none (look_str (l := []) rfl (by decide)) (fun _ => rfl) ?_
  refine o_end ?_
  refine den_seq ?_
  refine den_seq ?_
  refine den_region rfl ?_
  refine o_faddr field40_0 type3 (by decide) rfl rfl guard_none (look_tmp rfl) (fun _ => rfl) ?_
  refine o_oloadi 0 rfl type3 T_api_Expr_foc0 rfl guard_none (look_tmp rfl) (fun _ => rfl) ?_
  refine o_eql rfl rfl guard_none (look_tmp rfl) (look_int rfl) (fun _ => rfl) (fun _ => rfl) ?_
  refine o_end ?_
  refine den_cond (look_tmp rfl) ?_ ?_
  · refine den_seq ?_
    refine den_region rfl ?_
    refine o_faddr field40_2 type2 (by decide) rfl rfl guard_none (look_tmp rfl) (fun _ => rfl) ?_
    refine o_oloadi 0 rfl type2 T_api_Expr_foc2 rfl guard_none (look_tmp rfl) (fun _ => rfl) ?_
    refine o_call rfl rfl rfl callable29 (looks_cons (look_tmp rfl) (fun _ => rfl) (looks_nil)) (ref01_Decimal_ok _) (fun z2 => ?_)
    refine o_assign rfl rfl guard_none (look_tmp rfl) (fun _ => rfl) ?_
    refine o_end ?_
    refine den_code_ret ?_
    refine dene_ret ?_
    exact dene_res (res1 rfl (rv_tmp rfl))
  · refine den_skip ?_
    refine den_seq ?_
    refine den_seq ?_
    refine den_region rfl ?_
    refine o_faddr field40_0 type3 (by decide) rfl rfl guard_none (look_tmp rfl) (fun _ => rfl) ?_
    refine o_oloadi 0 rfl type3 T_api_Expr_foc0 rfl guard_none (look_tmp rfl) (fun _ => rfl) ?_
    refine o_eql rfl rfl guard_none (look_tmp rfl) (look_int rfl) (fun _ => rfl) (fun _ => rfl) ?_
    refine o_move rfl rfl guard_none (look_tmp rfl) (fun _ => rfl) ?_
    refine o_faddr field40_2 type2 (by decide) rfl rfl (guard_some rfl rfl rfl) (look_tmp rfl) (fun _ => rfl) ?_
    refine o_oloadi 0 rfl type2 T_api_Expr_foc2 rfl (guard_some rfl rfl rfl) (look_tmp rfl) (fun h => h) ?_
    refine o_eql rfl rfl (guard_some rfl rfl rfl) (look_tmp rfl) (look_int rfl) (fun h => h) (fun _ => rfl) ?_
    refine o_pick rfl rfl guard_none (look_tmp rfl) (look_tmp rfl) look_bool (fun _ => rfl) (fun h1 h2 => pick_t ((fun _ => rfl) h1) h2) (fun _ _ => rfl) ?_
    refine o_end ?_
    refine den_cond (look_tmp rfl) ?_ ?_
    · refine den_seq ?_
      refine den_region rfl ?_
      refine o_assign rfl rfl guard_none (look_str (l := [116, 114, 117, 101]) rfl (by decide)) (fun _ => rfl) ?_
      refine o_end ?_
      refine den_code_ret ?_
      refine dene_ret ?_
      exact dene_res (res1 rfl (rv_tmp rfl))
    · refine den_skip ?_
      refine den_seq ?_
      refine den_seq ?_
      refine den_region rfl ?_
      refine o_faddr field40_0 type3 (by decide) rfl rfl guard_none (look_tmp rfl) (fun _ => rfl) ?_
      refine o_oloadi 0 rfl type3 T_api_Expr_foc0 rfl guard_none (look_tmp rfl) (fun _ => rfl) ?_
      refine o_eql rfl rfl guard_none (look_tmp rfl) (look_int rfl) (fun _ => rfl) (fun _ => rfl) ?_
      refine o_end ?_
      refine den_cond (look_tmp rfl) ?_ ?_
      · refine den_seq ?_
        refine den_region rfl ?_
        refine o_assign rfl rfl guard_none (look_str (l := [102, 97, 108, 115, 101]) rfl (by decide)) (fun _ => rfl) ?_
        refine o_end ?_
        refine den_code_ret ?_
        refine dene_ret ?_
        exact dene_res (res1 rfl (rv_tmp rfl))
      · refine den_skip ?_
        refine den_seq ?_
        refine den_seq ?_
        refine den_region rfl ?_
        refine o_faddr field40_0 type3 (by decide) rfl rfl guard_none (look_tmp rfl) (fun _ => rfl) ?_
        refine o_oloadi 0 rfl type3 T_api_Expr_foc0 rfl guard_none (look_tmp rfl) (fun _ => rfl) ?_
        refine o_eql rfl rfl guard_none (look_tmp rfl) (look_int rfl) (fun _ => rfl) (fun _ => rfl) ?_
        refine o_end ?_
        refine den_cond (look_tmp rfl) ?_ ?_
        · refine den_seq ?_
          refine den_region rfl ?_
          refine o_faddr field40_1 type9 (by decide) rfl rfl guard_none (look_tmp rfl) (fun _ => rfl) ?_
          refine o_oloadi 0 rfl type9 T_api_Expr_foc1 rfl guard_none (look_tmp rfl) (fun _ => rfl) ?_
          refine o_sadd rfl rfl (look_str (l := [34]) rfl (by decide)) (look_tmp rfl) rfl rfl (fun z3 => ?_)
          refine o_sadd rfl rfl (look_tmp rfl) (look_str (l := [34]) rfl (by decide)) rfl rfl (fun z4 => ?_)
          refine o_assign rfl rfl guard_none (look_tmp rfl) (fun _ => rfl) ?_
          refine o_end ?_
          refine den_code_ret ?_
          refine dene_ret ?_
          exact dene_res (res1 rfl (rv_tmp rfl))
        · refine den_skip ?_
          refine den_seq ?_
          refine den_seq ?_
          refine den_region rfl ?_
          refine o_faddr field40_0 type3 (by decide) rfl rfl guard_none (look_tmp rfl) (fun _ => rfl) ?_
          refine o_oloadi 0 rfl type3 T_api_Expr_foc0 rfl guard_none (look_tmp rfl) (fun _ => rfl) ?_
          refine o_eql rfl rfl guard_none (look_tmp rfl) (look_int rfl) (fun _ => rfl) (fun _ => rfl) ?_
          refine o_end ?_
          refine den_cond (look_tmp rfl) ?_ ?_
          · refine den_seq ?_
            refine den_region rfl ?_
            refine o_faddr field40_1 type9 (by decide) rfl rfl guard_none (look_tmp rfl) (fun _ => rfl) ?_
            refine o_oloadi 0 rfl type9 T_api_Expr_foc1 rfl guard_none (look_tmp rfl) (fun _ => rfl) ?_
            refine o_sadd rfl rfl (look_str (l := [115, 46]) rfl (by decide)) (look_tmp rfl) rfl rfl (fun z5 => ?_)
            refine o_assign rfl rfl guard_none (look_tmp rfl) (fun _ => rfl) ?_
            refine o_end ?_
            refine den_code_ret ?_
            refine dene_ret ?_
            exact dene_res (res1 rfl (rv_tmp rfl))
          · refine den_skip ?_
            refine den_seq ?_
            refine den_seq ?_
            refine den_region rfl ?_
            refine o_faddr field40_0 type3 (by decide) rfl rfl guard_none (look_tmp rfl) (fun _ => rfl) ?_
            refine o_oloadi 0 rfl type3 T_api_Expr_foc0 rfl guard_none (look_tmp rfl) (fun _ => rfl) ?_
            refine o_eql rfl rfl guard_none (look_tmp rfl) (look_int rfl) (fun _ => rfl) (fun _ => rfl) ?_
            refine o_end ?_
            refine den_cond (look_tmp rfl) ?_ ?_
            · refine den_seq ?_
              refine den_region rfl ?_
              refine o_faddr field40_1 type9 (by decide) rfl rfl guard_none (look_tmp rfl) (fun _ => rfl) ?_
              refine o_oloadi 0 rfl type9 T_api_Expr_foc1 rfl guard_none (look_tmp rfl) (fun _ => rfl) ?_
              refine o_sadd rfl rfl (look_str (l := [111, 46]) rfl (by decide)) (look_tmp rfl) rfl rfl (fun z6 => ?_)
              refine o_assign rfl rfl guard_none (look_tmp rfl) (fun _ => rfl) ?_
              refine o_end ?_
              refine den_code_ret ?_
              refine dene_ret ?_
              exact dene_res (res1 rfl (rv_tmp rfl))
            · refine den_skip ?_
              refine den_seq ?_
              refine den_seq ?_
              refine den_region rfl ?_
              refine o_faddr field40_0 type3 (by decide) rfl rfl guard_none (look_tmp rfl) (fun _ => rfl) ?_
              refine o_oloadi 0 rfl type3 T_api_Expr_foc0 rfl guard_none (look_tmp rfl) (fun _ => rfl) ?_
              refine o_eql rfl rfl guard_none (look_tmp rfl) (look_int rfl) (fun _ => rfl) (fun _ => rfl) ?_
              refine o_end ?_
              refine den_cond (look_tmp rfl) ?_ ?_
              · refine den_seq ?_
                refine den_open (fun z7 h_z7 => ?_)
                refine den_open (fun z8 h_z8 => ?_)
                refine den_open (fun z9 h_z9 => ?_)
                refine den_open (fun z10 h_z10 => ?_)
                refine den_open (fun z11 h_z11 => ?_)
                refine den_draw [(42, ⟨Rep.addr, (z1, 0 + 1), true⟩), (43, ⟨Rep.str, e_0.Name, true⟩), (44, ⟨Rep.str, z7, true⟩), (45, ⟨Rep.str, z8, true⟩), (46, ⟨Rep.addr, (z1, 0 + 4), true⟩), (47, ⟨Rep.int .i64, e_0.Hi, true⟩), (48, ⟨Rep.str, z9, true⟩), (49, ⟨Rep.str, z10, true⟩), (50, ⟨Rep.str, z11, true⟩), (2, ⟨Rep.str, z11, true⟩)] mixed rfl rfl ⟨?_, ?_, ?_, ?_, ?_, ?_, ?_, ?_, ?_, ?_, trivial⟩ ?_
                · intro S hc hk hp
                  refine o_faddr field40_1 type9 (by decide) rfl rfl guard_none (look_o rfl rfl) (fun _ => rfl) ?_
                  exact d_end rfl rfl rfl
                · intro S hc hk hp
                  refine o_oloadi 0 rfl type9 T_api_Expr_foc1 rfl guard_none (look_d rfl rfl (pr hp 0 rfl rfl)) (fun _ => rfl) ?_
                  exact d_end rfl rfl rfl
                · intro S hc hk hp
                  refine o_from (bind_eqO h_z7) ?_
                  refine o_sadd rfl rfl (look_str (l := [116, 105, 109, 101, 115, 40]) rfl (by decide)) (look_d rfl rfl (pr hp 0 rfl rfl)) rfl rfl (o_eqO ?_)
                  exact d_end rfl rfl rfl
                · intro S hc hk hp
                  refine o_from (bind_eqO h_z8) ?_
                  refine o_sadd rfl rfl (look_d rfl rfl (pr hp 0 rfl rfl)) (look_str (l := [44, 32]) rfl (by decide)) rfl rfl (o_eqO ?_)
                  exact d_end rfl rfl rfl
                · intro S hc hk hp
                  refine o_faddr field40_4 type2 (by decide) rfl rfl guard_none (look_o rfl rfl) (fun _ => rfl) ?_
                  exact d_end rfl rfl rfl
                · intro S hc hk hp
                  refine o_oloadi 0 rfl type2 T_api_Expr_foc4 rfl guard_none (look_d rfl rfl (pr hp 0 rfl rfl)) (fun _ => rfl) ?_
                  exact d_end rfl rfl rfl
                · intro S hc hk hp
                  refine o_from (bind_eqO h_z9) ?_
                  refine o_call rfl rfl rfl callable29 (looks_cons (look_d rfl rfl (pr hp 0 rfl rfl)) (fun _ => rfl) (looks_nil)) (ref01_Decimal_ok _) (o_eqO ?_)
                  exact d_end rfl rfl rfl
                · intro S hc hk hp
                  refine o_from (bind_eqO h_z10) ?_
                  refine o_sadd rfl rfl (look_d rfl rfl (pr hp 0 rfl rfl)) (look_d rfl rfl (pr hp 1 rfl rfl)) rfl rfl (o_eqO ?_)
                  exact d_end rfl rfl rfl
                · intro S hc hk hp
                  refine o_from (bind_eqO h_z11) ?_
                  refine o_sadd rfl rfl (look_d rfl rfl (pr hp 0 rfl rfl)) (look_str (l := [41]) rfl (by decide)) rfl rfl (o_eqO ?_)
                  exact d_end rfl rfl rfl
                · intro S hc hk hp
                  refine o_assign rfl rfl guard_none (look_d rfl rfl (pr hp 0 rfl rfl)) (fun _ => rfl) ?_
                  exact d_end rfl rfl rfl
                refine den_code_ret ?_
                refine dene_ret ?_
                exact dene_res (res1 rfl (rv_tmp rfl))
              · refine den_skip ?_
                refine den_seq ?_
                refine den_seq ?_
                refine den_region rfl ?_
                refine o_faddr field40_0 type3 (by decide) rfl rfl guard_none (look_tmp rfl) (fun _ => rfl) ?_
                refine o_oloadi 0 rfl type3 T_api_Expr_foc0 rfl guard_none (look_tmp rfl) (fun _ => rfl) ?_
                refine o_eql rfl rfl guard_none (look_tmp rfl) (look_int rfl) (fun _ => rfl) (fun _ => rfl) ?_
                refine o_end ?_
                refine den_cond (look_tmp rfl) ?_ ?_
                · refine den_seq ?_
                  refine den_region rfl ?_
                  refine o_faddr field40_1 type9 (by decide) rfl rfl guard_none (look_tmp rfl) (fun _ => rfl) ?_
                  refine o_oloadi 0 rfl type9 T_api_Expr_foc1 rfl guard_none (look_tmp rfl) (fun _ => rfl) ?_
                  refine o_sadd rfl rfl (look_str (l := [97, 99, 116, 40]) rfl (by decide)) (look_tmp rfl) rfl rfl (fun z12 => ?_)
                  refine o_sadd rfl rfl (look_tmp rfl) (look_str (l := [41]) rfl (by decide)) rfl rfl (fun z13 => ?_)
                  refine o_assign rfl rfl guard_none (look_tmp rfl) (fun _ => rfl) ?_
                  refine o_end ?_
                  refine den_code_ret ?_
                  refine dene_ret ?_
                  exact dene_res (res1 rfl (rv_tmp rfl))
                · refine den_skip ?_
                  refine den_seq ?_
                  refine den_region rfl ?_
                  refine o_assign rfl rfl guard_none (look_str (l := [110, 111, 119]) rfl (by decide)) (fun _ => rfl) ?_
                  refine o_end ?_
                  refine den_code_ret ?_
                  exact dene_res (res1 rfl (rv_tmp rfl))

theorem ref09_Span_ok  (lo_0 : Int) (hi_1 : Int) : FunOk Try.prog 15 [⟨Rep.int .i64, lo_0, true⟩, ⟨Rep.int .i64, hi_1, true⟩] (ref09_Span lo_0 hi_1) (Rep.str) := by
  refine fun_ok Try.func15 rfl Try.ntmps15 rfl (all_cons rfl (all_cons rfl all_nil)) (fun w0 ok0 => ?_)
  refine den_seq ?_
  refine den_region rfl ?_
  refine o_assign rfl rfl guard_none (look_str (l := []) rfl (by decide)) (fun _ => rfl) ?_
  refine o_end ?_
  refine den_seq ?_
  refine den_seq ?_
  refine den_region rfl ?_
  refine o_move rfl rfl guard_none (look_tmp rfl) (fun _ => rfl) ?_
  refine o_eql rfl rfl guard_none (look_tmp rfl) (look_int rfl) (fun _ => rfl) (fun _ => rfl) ?_
  refine o_end ?_
  refine den_cond (look_tmp rfl) ?_ ?_
  · refine den_seq ?_
    refine den_region rfl ?_
    refine o_move rfl rfl guard_none (look_tmp rfl) (fun _ => rfl) ?_
    refine o_call rfl rfl rfl callable29 (looks_cons (look_tmp rfl) (fun _ => rfl) (looks_nil)) (ref01_Decimal_ok _) (fun z1 => ?_)
    refine o_sadd rfl rfl (look_str (l := [91]) rfl (by decide)) (look_tmp rfl) rfl rfl (fun z2 => ?_)
    refine o_sadd rfl rfl (look_tmp rfl) (look_str (l := [44, 42, 93]) rfl (by decide)) rfl rfl (fun z3 => ?_)
    refine o_assign rfl rfl guard_none (look_tmp rfl) (fun _ => rfl) ?_
    refine o_end ?_
    refine den_code_ret ?_
    refine dene_ret ?_
    exact dene_res (res1 rfl (rv_tmp rfl))
  · refine den_skip ?_
    refine den_seq ?_
    refine den_region rfl ?_
    refine o_move rfl rfl guard_none (look_tmp rfl) (fun _ => rfl) ?_
    refine o_call rfl rfl rfl callable29 (looks_cons (look_tmp rfl) (fun _ => rfl) (looks_nil)) (ref01_Decimal_ok _) (fun z4 => ?_)
    refine o_sadd rfl rfl (look_str (l := [91]) rfl (by decide)) (look_tmp rfl) rfl rfl (fun z5 => ?_)
    refine o_sadd rfl rfl (look_tmp rfl) (look_str (l := [44]) rfl (by decide)) rfl rfl (fun z6 => ?_)
    refine o_move rfl rfl guard_none (look_tmp rfl) (fun _ => rfl) ?_
    refine o_call rfl rfl rfl callable29 (looks_cons (look_tmp rfl) (fun _ => rfl) (looks_nil)) (ref01_Decimal_ok _) (fun z7 => ?_)
    refine o_sadd rfl rfl (look_tmp rfl) (look_tmp rfl) rfl rfl (fun z8 => ?_)
    refine o_sadd rfl rfl (look_tmp rfl) (look_str (l := [93]) rfl (by decide)) rfl rfl (fun z9 => ?_)
    refine o_assign rfl rfl guard_none (look_tmp rfl) (fun _ => rfl) ?_
    refine o_end ?_
    refine den_code_ret ?_
    exact dene_res (res1 rfl (rv_tmp rfl))

theorem ref09_front_ok  (e_0 : T_api_Expr) : FunOk Try.prog 39 [⟨T_api_Expr_rep, e_0, true⟩] (ref09_front e_0) (Rep.str) := by
  refine fun_ok Try.func39 rfl Try.ntmps39 rfl (all_cons rfl all_nil) (fun w0 ok0 => ?_)
  refine den_seq ?_
  refine den_region rfl ?_
  refine o_box rfl rfl (look_tmp rfl) rfl (fun z1 => ?_)
  refine o_assign rfl rfl guard_none (look_str (l := []) rfl (by decide)) (fun _ => rfl) ?_
  refine o_end ?_
  refine den_seq ?_
  refine den_seq ?_
  refine den_region rfl ?_
  refine o_faddr field40_0 type3 (by decide) rfl rfl guard_none (look_tmp rfl) (fun _ => rfl) ?_
  refine o_oloadi 0 rfl type3 T_api_Expr_foc0 rfl guard_none (look_tmp rfl) (fun _ => rfl) ?_
  refine o_eql rfl rfl guard_none (look_tmp rfl) (look_int rfl) (fun _ => rfl) (fun _ => rfl) ?_
  refine o_end ?_
  refine den_cond (look_tmp rfl) ?_ ?_
  · refine den_seq ?_
    refine den_region rfl ?_
    refine o_assign rfl rfl guard_none (look_str (l := [108, 101, 110]) rfl (by decide)) (fun _ => rfl) ?_
    refine o_end ?_
    refine den_code_ret ?_
    refine dene_ret ?_
    exact dene_res (res1 rfl (rv_tmp rfl))
  · refine den_skip ?_
    refine den_seq ?_
    refine den_seq ?_
    refine den_region rfl ?_
    refine o_faddr field40_0 type3 (by decide) rfl rfl guard_none (look_tmp rfl) (fun _ => rfl) ?_
    refine o_oloadi 0 rfl type3 T_api_Expr_foc0 rfl guard_none (look_tmp rfl) (fun _ => rfl) ?_
    refine o_eql rfl rfl guard_none (look_tmp rfl) (look_int rfl) (fun _ => rfl) (fun _ => rfl) ?_
    refine o_end ?_
    refine den_cond (look_tmp rfl) ?_ ?_
    · refine den_seq ?_
      refine den_region rfl ?_
      refine o_assign rfl rfl guard_none (look_str (l := [112, 114, 101, 118]) rfl (by decide)) (fun _ => rfl) ?_
      refine o_end ?_
      refine den_code_ret ?_
      refine dene_ret ?_
      exact dene_res (res1 rfl (rv_tmp rfl))
    · refine den_skip ?_
      refine den_seq ?_
      refine den_seq ?_
      refine den_region rfl ?_
      refine o_faddr field40_0 type3 (by decide) rfl rfl guard_none (look_tmp rfl) (fun _ => rfl) ?_
      refine o_oloadi 0 rfl type3 T_api_Expr_foc0 rfl guard_none (look_tmp rfl) (fun _ => rfl) ?_
      refine o_eql rfl rfl guard_none (look_tmp rfl) (look_int rfl) (fun _ => rfl) (fun _ => rfl) ?_
      refine o_end ?_
      refine den_cond (look_tmp rfl) ?_ ?_
      · refine den_seq ?_
        refine den_region rfl ?_
        refine o_faddr field40_3 type2 (by decide) rfl rfl guard_none (look_tmp rfl) (fun _ => rfl) ?_
        refine o_oloadi 0 rfl type2 T_api_Expr_foc3 rfl guard_none (look_tmp rfl) (fun _ => rfl) ?_
        refine o_faddr field40_4 type2 (by decide) rfl rfl guard_none (look_tmp rfl) (fun _ => rfl) ?_
        refine o_oloadi 0 rfl type2 T_api_Expr_foc4 rfl guard_none (look_tmp rfl) (fun _ => rfl) ?_
        refine o_call rfl rfl rfl callable15 (looks_cons (look_tmp rfl) (fun _ => rfl) (looks_cons (look_tmp rfl) (fun _ => rfl) (looks_nil))) (ref09_Span_ok _ _) (fun z2 => ?_)
        refine o_sadd rfl rfl (look_str (l := [111, 110, 99, 101]) rfl (by decide)) (look_tmp rfl) rfl rfl (fun z3 => ?_)
        refine o_assign rfl rfl guard_none (look_tmp rfl) (fun _ => rfl) ?_
        refine o_end ?_
        refine den_code_ret ?_
        refine dene_ret ?_
        exact dene_res (res1 rfl (rv_tmp rfl))
      · refine den_skip ?_
        refine den_seq ?_
        refine den_seq ?_
        refine den_region rfl ?_
        refine o_faddr field40_0 type3 (by decide) rfl rfl guard_none (look_tmp rfl) (fun _ => rfl) ?_
        refine o_oloadi 0 rfl type3 T_api_Expr_foc0 rfl guard_none (look_tmp rfl) (fun _ => rfl) ?_
        refine o_eql rfl rfl guard_none (look_tmp rfl) (look_int rfl) (fun _ => rfl) (fun _ => rfl) ?_
        refine o_end ?_
        refine den_cond (look_tmp rfl) ?_ ?_
        · refine den_seq ?_
          refine den_region rfl ?_
          refine o_faddr field40_3 type2 (by decide) rfl rfl guard_none (look_tmp rfl) (fun _ => rfl) ?_
          refine o_oloadi 0 rfl type2 T_api_Expr_foc3 rfl guard_none (look_tmp rfl) (fun _ => rfl) ?_
          refine o_faddr field40_4 type2 (by decide) rfl rfl guard_none (look_tmp rfl) (fun _ => rfl) ?_
          refine o_oloadi 0 rfl type2 T_api_Expr_foc4 rfl guard_none (look_tmp rfl) (fun _ => rfl) ?_
          refine o_call rfl rfl rfl callable15 (looks_cons (look_tmp rfl) (fun _ => rfl) (looks_cons (look_tmp rfl) (fun _ => rfl) (looks_nil))) (ref09_Span_ok _ _) (fun z4 => ?_)
          refine o_sadd rfl rfl (look_str (l := [104, 105, 115, 116]) rfl (by decide)) (look_tmp rfl) rfl rfl (fun z5 => ?_)
          refine o_assign rfl rfl guard_none (look_tmp rfl) (fun _ => rfl) ?_
          refine o_end ?_
          refine den_code_ret ?_
          refine dene_ret ?_
          exact dene_res (res1 rfl (rv_tmp rfl))
        · refine den_skip ?_
          refine den_seq ?_
          refine den_region rfl ?_
          refine o_faddr field40_3 type2 (by decide) rfl rfl guard_none (look_tmp rfl) (fun _ => rfl) ?_
          refine o_oloadi 0 rfl type2 T_api_Expr_foc3 rfl guard_none (look_tmp rfl) (fun _ => rfl) ?_
          refine o_faddr field40_4 type2 (by decide) rfl rfl guard_none (look_tmp rfl) (fun _ => rfl) ?_
          refine o_oloadi 0 rfl type2 T_api_Expr_foc4 rfl guard_none (look_tmp rfl) (fun _ => rfl) ?_
          refine o_call rfl rfl rfl callable15 (looks_cons (look_tmp rfl) (fun _ => rfl) (looks_cons (look_tmp rfl) (fun _ => rfl) (looks_nil))) (ref09_Span_ok _ _) (fun z6 => ?_)
          refine o_sadd rfl rfl (look_str (l := [115, 105, 110, 99, 101]) rfl (by decide)) (look_tmp rfl) rfl rfl (fun z7 => ?_)
          refine o_assign rfl rfl guard_none (look_tmp rfl) (fun _ => rfl) ?_
          refine o_end ?_
          refine den_code_ret ?_
          exact dene_res (res1 rfl (rv_tmp rfl))

theorem ref09_between_ok  (kind_0 : Int) : FunOk Try.prog 40 [⟨Rep.int .i64, kind_0, true⟩] (ref09_between kind_0) (Rep.str) := by
  refine fun_ok Try.func40 rfl Try.ntmps40 rfl (all_cons rfl all_nil) (fun w0 ok0 => ?_)
  refine den_seq ?_
  refine den_region rfl ?_
  refine o_assign rfl rfl guard_none (look_str (l := []) rfl (by decide)) (fun _ => rfl) ?_
  refine o_end ?_
  refine den_seq ?_
  refine den_region rfl ?_
  refine o_buildarr Try.underlying86 (info_i info86) (info_z info86) rfl (info_i info9) (info_all info9).2.1 rfl rfl rfl rfl rfl guard_none (.cons (look_str (l := [43]) rfl (by decide)) (fun _ => rfl) (.cons (look_str (l := [45]) rfl (by decide)) (fun _ => rfl) (.cons (look_str (l := [42]) rfl (by decide)) (fun _ => rfl) (.cons (look_str (l := []) rfl (by decide)) (fun _ => rfl) (.cons (look_str (l := []) rfl (by decide)) (fun _ => rfl) (.cons (look_str (l := []) rfl (by decide)) (fun _ => rfl) (.cons (look_str (l := [61]) rfl (by decide)) (fun _ => rfl) .nil))))))) ?_
  refine o_alloc zero86 rfl rfl (fun z1 => ?_)
  refine o_ostore type86 foc_self guard_none (look_tmp rfl) (fun _ => rfl) (look_tmp rfl) (fun _ => rfl) ?_
  refine o_end ?_
  refine den_seq ?_
  refine den_seq ?_
  refine den_region rfl ?_
  refine o_move rfl rfl guard_none (look_tmp rfl) (fun _ => rfl) ?_
  refine o_geq rfl rfl guard_none (look_tmp rfl) (look_int rfl) (fun _ => rfl) (fun _ => rfl) ?_
  refine o_move rfl rfl guard_none (look_tmp rfl) (fun _ => rfl) ?_
  refine o_move rfl rfl (guard_some rfl rfl rfl) (look_tmp rfl) (fun _ => rfl) ?_
  refine o_leq rfl rfl (guard_some rfl rfl rfl) (look_tmp rfl) (look_int rfl) (fun h => h) (fun _ => rfl) ?_
  refine o_pick rfl rfl guard_none (look_tmp rfl) (look_tmp rfl) look_bool (fun _ => rfl) (fun h1 h2 => pick_t ((fun _ => rfl) h1) h2) (fun _ _ => rfl) ?_
  refine o_move rfl rfl guard_none (look_tmp rfl) (fun _ => rfl) ?_
  refine o_move rfl rfl (guard_some rfl rfl rfl) (look_tmp rfl) (fun _ => rfl) ?_
  refine o_eql rfl rfl (guard_some rfl rfl rfl) (look_tmp rfl) (look_int rfl) (fun h => h) (fun _ => rfl) ?_
  refine o_pick rfl rfl guard_none (look_tmp rfl) look_bool (look_tmp rfl) (fun _ => rfl) (fun _ _ => rfl) (fun h1 h2 => pick_f ((fun _ => rfl) h1) h2) ?_
  refine o_end ?_
  refine den_cond (look_tmp rfl) ?_ ?_
  · refine den_seq ?_
    refine den_region rfl ?_
    refine o_move rfl rfl guard_none (look_tmp rfl) (fun _ => rfl) ?_
    refine o_sub rfl rfl guard_none (look_tmp rfl) (look_int rfl) (fun _ => rfl) (fun _ => rfl) ?_
    refine o_iarr (xs := ([([43] : Bytes), ([45] : Bytes), ([42] : Bytes), ([] : Bytes), ([] : Bytes), ([] : Bytes), ([61] : Bytes)] : (List Bytes))) Try.underlying86 (info_i info9) (info_all info9).2.1 rfl rfl rfl (look_tmp rfl) (look_tmp rfl) rfl rfl (fun z2 h_z2 => ?_)
    refine o_oloadi 0 rfl type9 (foc_arr (n := 7) (j := z2) (z := ([] : Bytes)) rfl trivial (at_lt h_z2)) rfl guard_none (look_tmp rfl) (fun _ => rfl) ?_
    refine o_assign rfl rfl guard_none (look_tmp rfl) (fun _ => rfl) ?_
    refine o_lt (fun z3 => ?_)
    refine o_end ?_
    refine den_code_ret ?_
    refine dene_ret ?_
    exact dene_res (res1 rfl (rv_tmp rfl))
  · refine den_skip ?_
    refine den_seq ?_
    refine den_seq ?_
    refine den_region rfl ?_
    refine o_move rfl rfl guard_none (look_tmp rfl) (fun _ => rfl) ?_
    refine o_eql rfl rfl guard_none (look_tmp rfl) (look_int rfl) (fun _ => rfl) (fun _ => rfl) ?_
    refine o_end ?_
    refine den_cond (look_tmp rfl) ?_ ?_
    · refine den_seq ?_
      refine den_region rfl ?_
      refine o_assign rfl rfl guard_none (look_str (l := [60]) rfl (by decide)) (fun _ => rfl) ?_
      refine o_end ?_
      refine den_code_ret ?_
      refine dene_ret ?_
      exact dene_res (res1 rfl (rv_tmp rfl))
    · refine den_skip ?_
      refine den_seq ?_
      refine den_seq ?_
      refine den_region rfl ?_
      refine o_move rfl rfl guard_none (look_tmp rfl) (fun _ => rfl) ?_
      refine o_eql rfl rfl guard_none (look_tmp rfl) (look_int rfl) (fun _ => rfl) (fun _ => rfl) ?_
      refine o_end ?_
      refine den_cond (look_tmp rfl) ?_ ?_
      · refine den_seq ?_
        refine den_region rfl ?_
        refine o_assign rfl rfl guard_none (look_str (l := [60, 61]) rfl (by decide)) (fun _ => rfl) ?_
        refine o_end ?_
        refine den_code_ret ?_
        refine dene_ret ?_
        exact dene_res (res1 rfl (rv_tmp rfl))
      · refine den_skip ?_
        refine den_seq ?_
        refine den_seq ?_
        refine den_region rfl ?_
        refine o_move rfl rfl guard_none (look_tmp rfl) (fun _ => rfl) ?_
        refine o_eql rfl rfl guard_none (look_tmp rfl) (look_int rfl) (fun _ => rfl) (fun _ => rfl) ?_
        refine o_end ?_
        refine den_cond (look_tmp rfl) ?_ ?_
        · refine den_seq ?_
          refine den_region rfl ?_
          refine o_assign rfl rfl guard_none (look_str (l := [105, 110]) rfl (by decide)) (fun _ => rfl) ?_
          refine o_end ?_
          refine den_code_ret ?_
          refine dene_ret ?_
          exact dene_res (res1 rfl (rv_tmp rfl))
        · refine den_skip ?_
          refine den_seq ?_
          refine den_seq ?_
          refine den_region rfl ?_
          refine o_move rfl rfl guard_none (look_tmp rfl) (fun _ => rfl) ?_
          refine o_eql rfl rfl guard_none (look_tmp rfl) (look_int rfl) (fun _ => rfl) (fun _ => rfl) ?_
          refine o_end ?_
          refine den_cond (look_tmp rfl) ?_ ?_
          · refine den_seq ?_
            refine den_region rfl ?_
            refine o_assign rfl rfl guard_none (look_str (l := [97, 110, 100]) rfl (by decide)) (fun _ => rfl) ?_
            refine o_end ?_
            refine den_code_ret ?_
            refine dene_ret ?_
            exact dene_res (res1 rfl (rv_tmp rfl))
          · refine den_skip ?_
            refine den_seq ?_
            refine den_region rfl ?_
            refine o_assign rfl rfl guard_none (look_str (l := [111, 114]) rfl (by decide)) (fun _ => rfl) ?_
            refine o_end ?_
            refine den_code_ret ?_
            exact dene_res (res1 rfl (rv_tmp rfl))

theorem ref09_Expr_rec_ok (fuel : Nat) (rec_ref09_Expr : T_api_Expr → Option Bytes) (rec_ref09_list : (List T_api_Expr) → Option Bytes) (hrec_ref09_Expr : ∀ (e_0 : T_api_Expr), FunOk Try.prog 19 [⟨T_api_Expr_rep, e_0, true⟩] (rec_ref09_Expr e_0) (Rep.str)) (hrec_ref09_list : ∀ (l_0 : (List T_api_Expr)), FunOk Try.prog 37 [⟨(T_api_Expr_rep).slice, l_0, true⟩] (rec_ref09_list l_0) (Rep.str))  (e_0 : T_api_Expr) : FunOk Try.prog 19 [⟨T_api_Expr_rep, e_0, true⟩] (ref09_Expr_rec fuel rec_ref09_Expr rec_ref09_list e_0) (Rep.str) := by
  refine fun_ok Try.func19 rfl Try.ntmps19 rfl (all_cons rfl all_nil) (fun w0 ok0 => ?_)
  refine den_seq ?_
  refine den_region rfl ?_
  refine o_box rfl rfl (look_tmp rfl) rfl (fun z1 => ?_)
  refine o_assign rfl rfl guard_none (look_str (l := []) rfl (by decide)) (fun _ => rfl) ?_
  refine o_end ?_
  refine den_seq ?_
  refine den_seq ?_
  refine den_region rfl ?_
  refine o_faddr field40_0 type3 (by decide) rfl rfl guard_none (look_tmp rfl) (fun _ => rfl) ?_
  refine o_oloadi 0 rfl type3 T_api_Expr_foc0 rfl guard_none (look_tmp rfl) (fun _ => rfl) ?_
  refine o_eql rfl rfl guard_none (look_tmp rfl) (look_int rfl) (fun _ => rfl) (fun _ => rfl) ?_
  refine o_end ?_
  refine den_cond (look_tmp rfl) ?_ ?_
  · refine den_seq ?_
    refine den_region rfl ?_
    refine o_faddr field40_5 type38 (by decide) rfl rfl guard_none (look_tmp rfl) (fun _ => rfl) ?_
    refine o_oloadi 0 rfl type38 T_api_Expr_foc5 rfl guard_none (look_tmp rfl) (fun _ => rfl) ?_
    refine o_call rfl rfl rfl callable37 (looks_cons (look_tmp rfl) (fun _ => rfl) (looks_nil)) (hrec_ref09_list _) (fun z2 => ?_)
    refine o_sadd rfl rfl (look_str (l := [123]) rfl (by decide)) (look_tmp rfl) rfl rfl (fun z3 => ?_)
    refine o_sadd rfl rfl (look_tmp rfl) (look_str (l := [125]) rfl (by decide)) rfl rfl (fun z4 => ?_)
    refine o_assign rfl rfl guard_none (look_tmp rfl) (fun _ => rfl) ?_
    refine o_end ?_
    refine den_code_ret ?_
    refine dene_ret ?_
    exact dene_res (res1 rfl (rv_tmp rfl))
  · refine den_skip ?_
    refine den_seq ?_
    refine den_seq ?_
    refine den_region rfl ?_
    refine o_faddr field40_5 type38 (by decide) rfl rfl guard_none (look_tmp rfl) (fun _ => rfl) ?_
    refine o_oloadi 0 rfl type38 T_api_Expr_foc5 rfl guard_none (look_tmp rfl) (fun _ => rfl) ?_
    refine o_llen Try.underlying38 rfl rfl guard_none (look_tmp rfl) (fun _ => rfl) ?_
    refine o_eql rfl rfl guard_none (look_tmp rfl) (look_int rfl) (fun _ => rfl) (fun _ => rfl) ?_
    refine o_end ?_
    refine den_cond (look_tmp rfl) ?_ ?_
    · refine den_seq ?_
      refine den_region rfl ?_
      refine o_oloadi 0 rfl type40 foc_self rfl guard_none (look_tmp rfl) (fun _ => rfl) ?_
      refine o_call rfl rfl rfl callable38 (looks_cons (look_tmp rfl) (fun _ => rfl) (looks_nil)) (ref09_leaf_ok _) (fun z5 => ?_)
      refine o_assign rfl rfl guard_none (look_tmp rfl) (fun _ => rfl) ?_
      refine o_end ?_
      refine den_code_ret ?_
      refine dene_ret ?_
      exact dene_res (res1 rfl (rv_tmp rfl))
    · refine den_skip ?_
      refine den_seq ?_
      refine den_seq ?_
      refine den_region rfl ?_
      refine o_faddr field40_0 type3 (by decide) rfl rfl guard_none (look_tmp rfl) (fun _ => rfl) ?_
      refine o_oloadi 0 rfl type3 T_api_Expr_foc0 rfl guard_none (look_tmp rfl) (fun _ => rfl) ?_
      refine o_eql rfl rfl guard_none (look_tmp rfl) (look_int rfl) (fun _ => rfl) (fun _ => rfl) ?_
      refine o_end ?_
      refine den_cond (look_tmp rfl) ?_ ?_
      · refine den_seq ?_
        refine den_region rfl ?_
        refine o_faddr field40_5 type38 (by decide) rfl rfl guard_none (look_tmp rfl) (fun _ => rfl) ?_
        refine o_oloadi 0 rfl type38 T_api_Expr_foc5 rfl guard_none (look_tmp rfl) (fun _ => rfl) ?_
        refine o_iaddr Try.underlying38 type40 rfl rfl (look_tmp rfl) (look_int rfl) rfl rfl (fun z6 => ?_)
        refine o_load type40 rfl rfl guard_none (look_tmp rfl) (fun _ => rfl) ?_
        refine o_call rfl rfl rfl callable19 (looks_cons (look_tmp rfl) (fun _ => rfl) (looks_nil)) (hrec_ref09_Expr _) (fun z7 => ?_)
        refine o_sadd rfl rfl (look_str (l := [45]) rfl (by decide)) (look_tmp rfl) rfl rfl (fun z8 => ?_)
        refine o_assign rfl rfl guard_none (look_tmp rfl) (fun _ => rfl) ?_
        refine o_end ?_
        refine den_code_ret ?_
        refine dene_ret ?_
        exact dene_res (res1 rfl (rv_tmp rfl))
      · refine den_skip ?_
        refine den_seq ?_
        refine den_seq ?_
        refine den_region rfl ?_
        refine o_faddr field40_0 type3 (by decide) rfl rfl guard_none (look_tmp rfl) (fun _ => rfl) ?_
        refine o_oloadi 0 rfl type3 T_api_Expr_foc0 rfl guard_none (look_tmp rfl) (fun _ => rfl) ?_
        refine o_eql rfl rfl guard_none (look_tmp rfl) (look_int rfl) (fun _ => rfl) (fun _ => rfl) ?_
        refine o_end ?_
        refine den_cond (look_tmp rfl) ?_ ?_
        · refine den_seq ?_
          refine den_region rfl ?_
          refine o_faddr field40_5 type38 (by decide) rfl rfl guard_none (look_tmp rfl) (fun _ => rfl) ?_
          refine o_oloadi 0 rfl type38 T_api_Expr_foc5 rfl guard_none (look_tmp rfl) (fun _ => rfl) ?_
          refine o_iaddr Try.underlying38 type40 rfl rfl (look_tmp rfl) (look_int rfl) rfl rfl (fun z9 => ?_)
          refine o_load type40 rfl rfl guard_none (look_tmp rfl) (fun _ => rfl) ?_
          refine o_call rfl rfl rfl callable19 (looks_cons (look_tmp rfl) (fun _ => rfl) (looks_nil)) (hrec_ref09_Expr _) (fun z10 => ?_)
          refine o_sadd rfl rfl (look_str (l := [110, 111, 116, 32]) rfl (by decide)) (look_tmp rfl) rfl rfl (fun z11 => ?_)
          refine o_assign rfl rfl guard_none (look_tmp rfl) (fun _ => rfl) ?_
          refine o_end ?_
          refine den_code_ret ?_
          refine dene_ret ?_
          exact dene_res (res1 rfl (rv_tmp rfl))
        · refine den_skip ?_
          refine den_seq ?_
          refine den_seq ?_
          refine den_region rfl ?_
          refine o_faddr field40_5 type38 (by decide) rfl rfl guard_none (look_tmp rfl) (fun _ => rfl) ?_
          refine o_oloadi 0 rfl type38 T_api_Expr_foc5 rfl guard_none (look_tmp rfl) (fun _ => rfl) ?_
          refine o_llen Try.underlying38 rfl rfl guard_none (look_tmp rfl) (fun _ => rfl) ?_
          refine o_eql rfl rfl guard_none (look_tmp rfl) (look_int rfl) (fun _ => rfl) (fun _ => rfl) ?_
          refine o_move rfl rfl guard_none (look_tmp rfl) (fun _ => rfl) ?_
          refine o_faddr field40_0 type3 (by decide) rfl rfl (guard_some rfl rfl rfl) (look_tmp rfl) (fun _ => rfl) ?_
          refine o_oloadi 0 rfl type3 T_api_Expr_foc0 rfl (guard_some rfl rfl rfl) (look_tmp rfl) (fun h => h) ?_
          refine o_eql rfl rfl (guard_some rfl rfl rfl) (look_tmp rfl) (look_int rfl) (fun h => h) (fun _ => rfl) ?_
          refine o_pick rfl rfl guard_none (look_tmp rfl) look_bool (look_tmp rfl) (fun _ => rfl) (fun _ _ => rfl) (fun h1 h2 => pick_f ((fun _ => rfl) h1) h2) ?_
          refine o_end ?_
          refine den_cond (look_tmp rfl) ?_ ?_
          · refine den_seq ?_
            refine den_open (fun z12 h_z12 => ?_)
            refine den_open (fun z13 h_z13 => ?_)
            refine den_open (fun z14 h_z14 => ?_)
            refine den_open (fun z15 h_z15 => ?_)
            refine den_open (fun z16 h_z16 => ?_)
            refine den_draw [(44, ⟨T_api_Expr_rep, e_0, true⟩), (45, ⟨Rep.str, z12, true⟩), (46, ⟨Rep.str, z13, true⟩), (47, ⟨Rep.addr, (z1, 0 + 5), true⟩), (48, ⟨(T_api_Expr_rep).slice, e_0.Kids, true⟩), (49, ⟨Rep.str, z14, true⟩), (50, ⟨Rep.str, z15, true⟩), (51, ⟨Rep.str, z16, true⟩), (2, ⟨Rep.str, z16, true⟩)] mixed rfl rfl ⟨?_, ?_, ?_, ?_, ?_, ?_, ?_, ?_, ?_, trivial⟩ ?_
            · intro S hc hk hp
              refine o_oloadi 0 rfl type40 foc_self rfl guard_none (look_o rfl rfl) (fun _ => rfl) ?_
              exact d_end rfl rfl rfl
            · intro S hc hk hp
              refine o_from (bind_eqO h_z12) ?_
              refine o_call rfl rfl rfl callable39 (looks_cons (look_d rfl rfl (pr hp 0 rfl rfl)) (fun _ => rfl) (looks_nil)) (ref09_front_ok _) (o_eqO ?_)
              exact d_end rfl rfl rfl
            · intro S hc hk hp
              refine o_from (bind_eqO h_z13) ?_
              refine o_sadd rfl rfl (look_d rfl rfl (pr hp 0 rfl rfl)) (look_str (l := [40]) rfl (by decide)) rfl rfl (o_eqO ?_)
              exact d_end rfl rfl rfl
            · intro S hc hk hp
              refine o_faddr field40_5 type38 (by decide) rfl rfl guard_none (look_o rfl rfl) (fun _ => rfl) ?_
              exact d_end rfl rfl rfl
            · intro S hc hk hp
              refine o_oloadi 0 rfl type38 T_api_Expr_foc5 rfl guard_none (look_d rfl rfl (pr hp 0 rfl rfl)) (fun _ => rfl) ?_
              exact d_end rfl rfl rfl
            · intro S hc hk hp
              refine o_from (bind_eqO h_z14) ?_
              refine o_call rfl rfl rfl callable37 (looks_cons (look_d rfl rfl (pr hp 0 rfl rfl)) (fun _ => rfl) (looks_nil)) (hrec_ref09_list _) (o_eqO ?_)
              exact d_end rfl rfl rfl
            · intro S hc hk hp
              refine o_from (bind_eqO h_z15) ?_
              refine o_sadd rfl rfl (look_d rfl rfl (pr hp 0 rfl rfl)) (look_d rfl rfl (pr hp 1 rfl rfl)) rfl rfl (o_eqO ?_)
              exact d_end rfl rfl rfl
            · intro S hc hk hp
              refine o_from (bind_eqO h_z16) ?_
              refine o_sadd rfl rfl (look_d rfl rfl (pr hp 0 rfl rfl)) (look_str (l := [41]) rfl (by decide)) rfl rfl (o_eqO ?_)
              exact d_end rfl rfl rfl
            · intro S hc hk hp
              refine o_assign rfl rfl guard_none (look_d rfl rfl (pr hp 0 rfl rfl)) (fun _ => rfl) ?_
              exact d_end rfl rfl rfl
            refine den_code_ret ?_
            refine dene_ret ?_
            exact dene_res (res1 rfl (rv_tmp rfl))
          · refine den_skip ?_
            refine den_seq ?_
            refine den_open (fun z17 h_z17 => ?_)
            refine den_open (fun z18 h_z18 => ?_)
            refine den_open (fun z19 h_z19 => ?_)
            refine den_open (fun z20 h_z20 => ?_)
            refine den_open (fun z21 h_z21 => ?_)
            refine den_open (fun z22 h_z22 => ?_)
            refine den_open (fun z23 h_z23 => ?_)
            refine den_open (fun z24 h_z24 => ?_)
            refine den_open (fun z25 h_z25 => ?_)
            refine den_open (fun z26 h_z26 => ?_)
            refine den_open (fun z27 h_z27 => ?_)
            refine den_draw [(52, ⟨Rep.addr, (z1, 0 + 5), true⟩), (53, ⟨(T_api_Expr_rep).slice, e_0.Kids, true⟩), (54, ⟨(T_api_Expr_rep).ptrTo, z17, true⟩), (55, ⟨T_api_Expr_rep, z17, true⟩), (56, ⟨Rep.str, z18, true⟩), (57, ⟨Rep.str, z19, true⟩), (58, ⟨Rep.str, z20, true⟩), (59, ⟨Rep.addr, (z1, 0), true⟩), (60, ⟨Rep.int .i64, e_0.Kind, true⟩), (61, ⟨Rep.str, z21, true⟩), (62, ⟨Rep.str, z22, true⟩), (63, ⟨Rep.str, z23, true⟩), (64, ⟨Rep.addr, (z1, 0 + 5), true⟩), (65, ⟨(T_api_Expr_rep).slice, e_0.Kids, true⟩), (66, ⟨(T_api_Expr_rep).ptrTo, z24, true⟩), (67, ⟨T_api_Expr_rep, z24, true⟩), (68, ⟨Rep.str, z25, true⟩), (69, ⟨Rep.str, z26, true⟩), (70, ⟨Rep.str, z27, true⟩), (2, ⟨Rep.str, z27, true⟩)] mixed rfl rfl ⟨?_, ?_, ?_, ?_, ?_, ?_, ?_, ?_, ?_, ?_, ?_, ?_, ?_, ?_, ?_, ?_, ?_, ?_, ?_, ?_, trivial⟩ ?_
            · intro S hc hk hp
              refine o_faddr field40_5 type38 (by decide) rfl rfl guard_none (look_o rfl rfl) (fun _ => rfl) ?_
              exact d_end rfl rfl rfl
            · intro S hc hk hp
              refine o_oloadi 0 rfl type38 T_api_Expr_foc5 rfl guard_none (look_d rfl rfl (pr hp 0 rfl rfl)) (fun _ => rfl) ?_
              exact d_end rfl rfl rfl
            · intro S hc hk hp
              refine o_from (bind_eqO h_z17) ?_
              refine o_iaddr Try.underlying38 type40 rfl rfl (look_d rfl rfl (pr hp 0 rfl rfl)) (look_int rfl) rfl rfl (o_eqO ?_)
              exact d_end rfl rfl rfl
            · intro S hc hk hp
              refine o_load type40 rfl rfl guard_none (look_d rfl rfl (pr hp 0 rfl rfl)) (fun _ => rfl) ?_
              exact d_end rfl rfl rfl
            · intro S hc hk hp
              refine o_from (bind_eqO h_z18) ?_
              refine o_call rfl rfl rfl callable19 (looks_cons (look_d rfl rfl (pr hp 0 rfl rfl)) (fun _ => rfl) (looks_nil)) (hrec_ref09_Expr _) (o_eqO ?_)
              exact d_end rfl rfl rfl
            · intro S hc hk hp
              refine o_from (bind_eqO h_z19) ?_
              refine o_sadd rfl rfl (look_str (l := [40]) rfl (by decide)) (look_d rfl rfl (pr hp 0 rfl rfl)) rfl rfl (o_eqO ?_)
              exact d_end rfl rfl rfl
            · intro S hc hk hp
              refine o_from (bind_eqO h_z20) ?_
              refine o_sadd rfl rfl (look_d rfl rfl (pr hp 0 rfl rfl)) (look_str (l := [32]) rfl (by decide)) rfl rfl (o_eqO ?_)
              exact d_end rfl rfl rfl
            · intro S hc hk hp
              refine o_faddr field40_0 type3 (by decide) rfl rfl guard_none (look_o rfl rfl) (fun _ => rfl) ?_
              exact d_end rfl rfl rfl
            · intro S hc hk hp
              refine o_oloadi 0 rfl type3 T_api_Expr_foc0 rfl guard_none (look_d rfl rfl (pr hp 0 rfl rfl)) (fun _ => rfl) ?_
              exact d_end rfl rfl rfl
            · intro S hc hk hp
              refine o_from (bind_eqO h_z21) ?_
              refine o_call rfl rfl rfl callable40 (looks_cons (look_d rfl rfl (pr hp 0 rfl rfl)) (fun _ => rfl) (looks_nil)) (ref09_between_ok _) (o_eqO ?_)
              exact d_end rfl rfl rfl
            · intro S hc hk hp
              refine o_from (bind_eqO h_z22) ?_
              refine o_sadd rfl rfl (look_d rfl rfl (pr hp 0 rfl rfl)) (look_d rfl rfl (pr hp 1 rfl rfl)) rfl rfl (o_eqO ?_)
              exact d_end rfl rfl rfl
            · intro S hc hk hp
              refine o_from (bind_eqO h_z23) ?_
              refine o_sadd rfl rfl (look_d rfl rfl (pr hp 0 rfl rfl)) (look_str (l := [32]) rfl (by decide)) rfl rfl (o_eqO ?_)
              exact d_end rfl rfl rfl
            · intro S hc hk hp
              refine o_faddr field40_5 type38 (by decide) rfl rfl guard_none (look_o rfl rfl) (fun _ => rfl) ?_
              exact d_end rfl rfl rfl
            · intro S hc hk hp
              refine o_oloadi 0 rfl type38 T_api_Expr_foc5 rfl guard_none (look_d rfl rfl (pr hp 0 rfl rfl)) (fun _ => rfl) ?_
              exact d_end rfl rfl rfl
            · intro S hc hk hp
              refine o_from (bind_eqO h_z24) ?_
              refine o_iaddr Try.underlying38 type40 rfl rfl (look_d rfl rfl (pr hp 0 rfl rfl)) (look_int rfl) rfl rfl (o_eqO ?_)
              exact d_end rfl rfl rfl
            · intro S hc hk hp
              refine o_load type40 rfl rfl guard_none (look_d rfl rfl (pr hp 0 rfl rfl)) (fun _ => rfl) ?_
              exact d_end rfl rfl rfl
            · intro S hc hk hp
              refine o_from (bind_eqO h_z25) ?_
              refine o_call rfl rfl rfl callable19 (looks_cons (look_d rfl rfl (pr hp 0 rfl rfl)) (fun _ => rfl) (looks_nil)) (hrec_ref09_Expr _) (o_eqO ?_)
              exact d_end rfl rfl rfl
            · intro S hc hk hp
              refine o_from (bind_eqO h_z26) ?_
              refine o_sadd rfl rfl (look_d rfl rfl (pr hp 0 rfl rfl)) (look_d rfl rfl (pr hp 1 rfl rfl)) rfl rfl (o_eqO ?_)
              exact d_end rfl rfl rfl
            · intro S hc hk hp
              refine o_from (bind_eqO h_z27) ?_
              refine o_sadd rfl rfl (look_d rfl rfl (pr hp 0 rfl rfl)) (look_str (l := [41]) rfl (by decide)) rfl rfl (o_eqO ?_)
              exact d_end rfl rfl rfl
            · intro S hc hk hp
              refine o_assign rfl rfl guard_none (look_d rfl rfl (pr hp 0 rfl rfl)) (fun _ => rfl) ?_
              exact d_end rfl rfl rfl
            refine den_code_ret ?_
            exact dene_res (res1 rfl (rv_tmp rfl))

theorem ref09_list_rec_ok (fuel : Nat) (rec_ref09_Expr : T_api_Expr → Option Bytes) (hrec_ref09_Expr : ∀ (e_0 : T_api_Expr), FunOk Try.prog 19 [⟨T_api_Expr_rep, e_0, true⟩] (rec_ref09_Expr e_0) (Rep.str))  (l_0 : (List T_api_Expr)) : FunOk Try.prog 37 [⟨(T_api_Expr_rep).slice, l_0, true⟩] (ref09_list_rec fuel rec_ref09_Expr l_0) (Rep.str) := by
  refine fun_ok Try.func37 rfl Try.ntmps37 rfl (all_cons rfl all_nil) (fun w0 ok0 => ?_)
  refine den_seq ?_
  refine den_region rfl ?_
  refine o_assign rfl rfl guard_none (look_str (l := []) rfl (by decide)) (fun _ => rfl) ?_
  refine o_end ?_
  refine den_seq ?_
  refine den_region rfl ?_
  refine o_assign rfl rfl guard_none (look_str (l := []) rfl (by decide)) (fun _ => rfl) ?_
  refine o_end ?_
  refine den_seq ?_
  refine den_seq ?_
  refine den_region rfl ?_
  refine o_assign rfl rfl guard_none (look_int rfl) (fun _ => rfl) ?_
  refine o_end ?_
  refine den_bind (fun z1 => [(3, ⟨Rep.str, z1, true⟩)]) (fun z1 => []) ?_ (fun z1 => ?_)
  · refine den_block ?_
    refine den_loop (ref09_list_L1b rec_ref09_Expr l_0) (fun z2 => [(3, ⟨Rep.str, z2.1, true⟩), (4, ⟨Rep.int .i64, z2.2, true⟩), (0, ⟨(T_api_Expr_rep).slice, l_0, true⟩)]) (fun z2 => []) (([] : Bytes), 0) (fun z2 => ?_) ((sub_env (sube_cons rfl (sube_cons rfl (sube_cons rfl (sube_nil))))))
    refine den_seq ?_
    refine den_seq ?_
    refine den_region rfl ?_
    refine o_move rfl rfl guard_none (look_tmp rfl) (fun _ => rfl) ?_
    refine o_move rfl rfl guard_none (look_tmp rfl) (fun _ => rfl) ?_
    refine o_llen Try.underlying38 rfl rfl guard_none (look_tmp rfl) (fun _ => rfl) ?_
    refine o_lss rfl rfl guard_none (look_tmp rfl) (look_tmp rfl) (fun _ => rfl) (fun _ => rfl) ?_
    refine o_end ?_
    refine den_cond (look_tmp rfl) ?_ ?_
    · refine den_skip ?_
      refine den_seq ?_
      refine den_block ?_
      refine den_seq ?_
      refine den_seq ?_
      refine den_region rfl ?_
      refine o_move rfl rfl guard_none (look_tmp rfl) (fun _ => rfl) ?_
      refine o_gtr rfl rfl guard_none (look_tmp rfl) (look_int rfl) (fun _ => rfl) (fun _ => rfl) ?_
      refine o_end ?_
      refine den_cond (look_tmp rfl) ?_ ?_
      · refine den_region rfl ?_
        refine o_move rfl rfl guard_none (look_tmp rfl) (fun _ => rfl) ?_
        refine o_sadd rfl rfl (look_tmp rfl) (look_str (l := [44, 32]) rfl (by decide)) rfl rfl (fun z3 => ?_)
        refine o_assign rfl rfl guard_none (look_tmp rfl) (fun _ => rfl) ?_
        refine o_end ?_
        refine den_region rfl ?_
        refine o_move rfl rfl guard_none (look_tmp rfl) (fun _ => rfl) ?_
        refine o_move rfl rfl guard_none (look_tmp rfl) (fun _ => rfl) ?_
        refine o_move rfl rfl guard_none (look_tmp rfl) (fun _ => rfl) ?_
        refine o_iaddr Try.underlying38 type40 rfl rfl (look_tmp rfl) (look_tmp rfl) rfl rfl (fun z4 => ?_)
        refine o_load type40 rfl rfl guard_none (look_tmp rfl) (fun _ => rfl) ?_
        refine o_call rfl rfl rfl callable19 (looks_cons (look_tmp rfl) (fun _ => rfl) (looks_nil)) (hrec_ref09_Expr _) (fun z5 => ?_)
        refine o_sadd rfl rfl (look_tmp rfl) (look_tmp rfl) rfl rfl (fun z6 => ?_)
        refine o_assign rfl rfl guard_none (look_tmp rfl) (fun _ => rfl) ?_
        refine o_end ?_
        refine den_blkend ?_
        refine den_region rfl ?_
        refine o_move rfl rfl guard_none (look_tmp rfl) (fun _ => rfl) ?_
        refine o_add rfl rfl guard_none (look_tmp rfl) (look_int rfl) (fun _ => rfl) (fun _ => rfl) ?_
        refine o_assign rfl rfl guard_none (look_tmp rfl) (fun _ => rfl) ?_
        refine o_end ?_
        refine den_next ((sub_env (sube_cons rfl (sube_cons rfl (sube_cons rfl (sube_nil))))))
      · refine den_skip ?_
        refine den_region rfl ?_
        refine o_move rfl rfl guard_none (look_tmp rfl) (fun _ => rfl) ?_
        refine o_move rfl rfl guard_none (look_tmp rfl) (fun _ => rfl) ?_
        refine o_move rfl rfl guard_none (look_tmp rfl) (fun _ => rfl) ?_
        refine o_iaddr Try.underlying38 type40 rfl rfl (look_tmp rfl) (look_tmp rfl) rfl rfl (fun z7 => ?_)
        refine o_load type40 rfl rfl guard_none (look_tmp rfl) (fun _ => rfl) ?_
        refine o_call rfl rfl rfl callable19 (looks_cons (look_tmp rfl) (fun _ => rfl) (looks_nil)) (hrec_ref09_Expr _) (fun z8 => ?_)
        refine o_sadd rfl rfl (look_tmp rfl) (look_tmp rfl) rfl rfl (fun z9 => ?_)
        refine o_assign rfl rfl guard_none (look_tmp rfl) (fun _ => rfl) ?_
        refine o_end ?_
        refine den_blkend ?_
        refine den_region rfl ?_
        refine o_move rfl rfl guard_none (look_tmp rfl) (fun _ => rfl) ?_
        refine o_add rfl rfl guard_none (look_tmp rfl) (look_int rfl) (fun _ => rfl) (fun _ => rfl) ?_
        refine o_assign rfl rfl guard_none (look_tmp rfl) (fun _ => rfl) ?_
        refine o_end ?_
        refine den_next ((sub_env (sube_cons rfl (sube_cons rfl (sube_cons rfl (sube_nil))))))
    · refine den_code_exit ?_
      refine dene_out rfl ?_
      refine dene_loop (by simp) ?_
      refine dene_to rfl ?_
      refine den_end ((sub_env (sube_cons rfl (sube_nil))))
  refine den_seq ?_
  refine den_region rfl ?_
  refine o_move rfl rfl guard_none (look_tmp rfl) (fun _ => rfl) ?_
  refine o_assign rfl rfl guard_none (look_tmp rfl) (fun _ => rfl) ?_
  refine o_end ?_
  refine den_code_ret ?_
  exact dene_res (res1 rfl (rv_tmp rfl))

theorem grp_ref09_Expr_ok (N n : Nat) : (∀ (e_0 : T_api_Expr), FunOk Try.prog 19 [⟨T_api_Expr_rep, e_0, true⟩] ((grp_ref09_Expr N n).1 e_0) (Rep.str)) ∧ (∀ (l_0 : (List T_api_Expr)), FunOk Try.prog 37 [⟨(T_api_Expr_rep).slice, l_0, true⟩] ((grp_ref09_Expr N n).2 l_0) (Rep.str)) := by
  induction n with
  | zero => exact ⟨by intros; exact fun_none, by intros; exact fun_none⟩
  | succ n ih => exact ⟨ref09_Expr_rec_ok N _ _ ih.1 ih.2, ref09_list_rec_ok N _ ih.1⟩
theorem ref09_Expr_ok (N n : Nat) : ∀ (e_0 : T_api_Expr), FunOk Try.prog 19 [⟨T_api_Expr_rep, e_0, true⟩] (ref09_Expr N n e_0) (Rep.str) := (grp_ref09_Expr_ok N n).1
theorem ref09_list_ok (N n : Nat) : ∀ (l_0 : (List T_api_Expr)), FunOk Try.prog 37 [⟨(T_api_Expr_rep).slice, l_0, true⟩] (ref09_list N n l_0) (Rep.str) := (grp_ref09_Expr_ok N n).2

theorem plain_Expr_rec_ok (fuel : Nat) (rec_plain_Expr : T_api_Expr → T_api_Expr → Option Bool) (hrec_plain_Expr : ∀ (a_0 : T_api_Expr) (b_1 : T_api_Expr), FunOk Try.prog 20 [⟨T_api_Expr_rep, a_0, true⟩, ⟨T_api_Expr_rep, b_1, true⟩] (rec_plain_Expr a_0 b_1) (Rep.bool))  (a_0 : T_api_Expr) (b_1 : T_api_Expr) : FunOk Try.prog 20 [⟨T_api_Expr_rep, a_0, true⟩, ⟨T_api_Expr_rep, b_1, true⟩] (plain_Expr_rec fuel rec_plain_Expr a_0 b_1) (Rep.bool) := by
  refine fun_ok Try.func20 rfl Try.ntmps20 rfl (all_cons rfl (all_cons rfl all_nil)) (fun w0 ok0 => ?_)
  refine den_seq ?_
  refine den_region rfl ?_
  refine o_box rfl rfl (look_tmp rfl) rfl (fun z1 => ?_)
  refine o_box rfl rfl (look_tmp rfl) rfl (fun z2 => ?_)
  refine o_assign rfl rfl guard_none look_bool (fun _ => rfl) ?_
  refine o_end ?_
  refine den_seq ?_
  refine den_seq ?_
  refine den_region rfl ?_
  refine o_faddr field40_0 type3 (by decide) rfl rfl guard_none (look_tmp rfl) (fun _ => rfl) ?_
  refine o_oloadi 1 rfl type3 T_api_Expr_foc0 rfl guard_none (look_tmp rfl) (fun _ => rfl) ?_
  refine o_faddr field40_0 type3 (by decide) rfl rfl guard_none (look_tmp rfl) (fun _ => rfl) ?_
  refine o_oloadi 0 rfl type3 T_api_Expr_foc0 rfl guard_none (look_tmp rfl) (fun _ => rfl) ?_
  refine o_neq rfl rfl guard_none (look_tmp rfl) (look_tmp rfl) (fun _ => rfl) (fun _ => rfl) ?_
  refine o_move rfl rfl guard_none (look_tmp rfl) (fun _ => rfl) ?_
  refine o_faddr field40_1 type9 (by decide) rfl rfl (guard_some rfl rfl rfl) (look_tmp rfl) (fun _ => rfl) ?_
  refine o_oloadi 1 rfl type9 T_api_Expr_foc1 rfl (guard_some rfl rfl rfl) (look_tmp rfl) (fun h => h) ?_
  refine o_faddr field40_1 type9 (by decide) rfl rfl (guard_some rfl rfl rfl) (look_tmp rfl) (fun _ => rfl) ?_
  refine o_oloadi 0 rfl type9 T_api_Expr_foc1 rfl (guard_some rfl rfl rfl) (look_tmp rfl) (fun h => h) ?_
  refine o_sneq rfl rfl (guard_some rfl rfl rfl) (look_tmp rfl) (look_tmp rfl) (fun h => h) (fun h => h) ?_
  refine o_pick rfl rfl guard_none (look_tmp rfl) look_bool (look_tmp rfl) (fun _ => rfl) (fun _ _ => rfl) (fun h1 h2 => pick_f ((fun _ => rfl) h1) h2) ?_
  refine o_move rfl rfl guard_none (look_tmp rfl) (fun _ => rfl) ?_
  refine o_faddr field40_2 type2 (by decide) rfl rfl (guard_some rfl rfl rfl) (look_tmp rfl) (fun _ => rfl) ?_
  refine o_oloadi 1 rfl type2 T_api_Expr_foc2 rfl (guard_some rfl rfl rfl) (look_tmp rfl) (fun h => h) ?_
  refine o_faddr field40_2 type2 (by decide) rfl rfl (guard_some rfl rfl rfl) (look_tmp rfl) (fun _ => rfl) ?_
  refine o_oloadi 0 rfl type2 T_api_Expr_foc2 rfl (guard_some rfl rfl rfl) (look_tmp rfl) (fun h => h) ?_
  refine o_neq rfl rfl (guard_some rfl rfl rfl) (look_tmp rfl) (look_tmp rfl) (fun h => h) (fun h => h) ?_
  refine o_pick rfl rfl guard_none (look_tmp rfl) look_bool (look_tmp rfl) (fun _ => rfl) (fun _ _ => rfl) (fun h1 h2 => pick_f ((fun _ => rfl) h1) h2) ?_
  refine o_move rfl rfl guard_none (look_tmp rfl) (fun _ => rfl) ?_
  refine o_faddr field40_3 type2 (by decide) rfl rfl (guard_some rfl rfl rfl) (look_tmp rfl) (fun _ => rfl) ?_
  refine o_oloadi 1 rfl type2 T_api_Expr_foc3 rfl (guard_some rfl rfl rfl) (look_tmp rfl) (fun h => h) ?_
  refine o_faddr field40_3 type2 (by decide) rfl rfl (guard_some rfl rfl rfl) (look_tmp rfl) (fun _ => rfl) ?_
  refine o_oloadi 0 rfl type2 T_api_Expr_foc3 rfl (guard_some rfl rfl rfl) (look_tmp rfl) (fun h => h) ?_
  refine o_neq rfl rfl (guard_some rfl rfl rfl) (look_tmp rfl) (look_tmp rfl) (fun h => h) (fun h => h) ?_
  refine o_pick rfl rfl guard_none (look_tmp rfl) look_bool (look_tmp rfl) (fun _ => rfl) (fun _ _ => rfl) (fun h1 h2 => pick_f ((fun _ => rfl) h1) h2) ?_
  refine o_move rfl rfl guard_none (look_tmp rfl) (fun _ => rfl) ?_
  refine o_faddr field40_4 type2 (by decide) rfl rfl (guard_some rfl rfl rfl) (look_tmp rfl) (fun _ => rfl) ?_
  refine o_oloadi 1 rfl type2 T_api_Expr_foc4 rfl (guard_some rfl rfl rfl) (look_tmp rfl) (fun h => h) ?_
  refine o_faddr field40_4 type2 (by decide) rfl rfl (guard_some rfl rfl rfl) (look_tmp rfl) (fun _ => rfl) ?_
  refine o_oloadi 0 rfl type2 T_api_Expr_foc4 rfl (guard_some rfl rfl rfl) (look_tmp rfl) (fun h => h) ?_
  refine o_neq rfl rfl (guard_some rfl rfl rfl) (look_tmp rfl) (look_tmp rfl) (fun h => h) (fun h => h) ?_
  refine o_pick rfl rfl guard_none (look_tmp rfl) look_bool (look_tmp rfl) (fun _ => rfl) (fun _ _ => rfl) (fun h1 h2 => pick_f ((fun _ => rfl) h1) h2) ?_
  refine o_move rfl rfl guard_none (look_tmp rfl) (fun _ => rfl) ?_
  refine o_faddr field40_5 type38 (by decide) rfl rfl (guard_some rfl rfl rfl) (look_tmp rfl) (fun _ => rfl) ?_
  refine o_oloadi 1 rfl type38 T_api_Expr_foc5 rfl (guard_some rfl rfl rfl) (look_tmp rfl) (fun h => h) ?_
  refine o_llen Try.underlying38 rfl rfl (guard_some rfl rfl rfl) (look_tmp rfl) (fun h => h) ?_
  refine o_faddr field40_5 type38 (by decide) rfl rfl (guard_some rfl rfl rfl) (look_tmp rfl) (fun _ => rfl) ?_
  refine o_oloadi 0 rfl type38 T_api_Expr_foc5 rfl (guard_some rfl rfl rfl) (look_tmp rfl) (fun h => h) ?_
  refine o_llen Try.underlying38 rfl rfl (guard_some rfl rfl rfl) (look_tmp rfl) (fun h => h) ?_
  refine o_neq rfl rfl (guard_some rfl rfl rfl) (look_tmp rfl) (look_tmp rfl) (fun h => h) (fun h => h) ?_
  refine o_pick rfl rfl guard_none (look_tmp rfl) look_bool (look_tmp rfl) (fun _ => rfl) (fun _ _ => rfl) (fun h1 h2 => pick_f ((fun _ => rfl) h1) h2) ?_
  refine o_end ?_
  refine den_cond (look_tmp rfl) ?_ ?_
  · refine den_seq ?_
    refine den_region rfl ?_
    refine o_assign rfl rfl guard_none look_bool (fun _ => rfl) ?_
    refine o_end ?_
    refine den_code_ret ?_
    refine dene_ret ?_
    exact dene_res (res1 rfl (rv_tmp rfl))
  · refine den_skip ?_
    refine den_seq ?_
    refine den_seq ?_
    refine den_region rfl ?_
    refine o_assign rfl rfl guard_none (look_int rfl) (fun _ => rfl) ?_
    refine o_end ?_
    refine den_both (fun z3 => []) (fun z3 => []) ?_ (fun z3 => ?_)
    · refine den_block ?_
      refine den_loop (plain_Expr_L1b rec_plain_Expr a_0 b_1) (fun z4 => [(5, ⟨Rep.int .i64, z4, true⟩), (2, ⟨Rep.addr, (z1, 0), true⟩), (3, ⟨Rep.addr, (z2, 0), true⟩)]) (fun z4 => [.obj true z2 0 (.dat T_api_Expr_rep) b_1, .obj true z1 0 (.dat T_api_Expr_rep) a_0]) 0 (fun z4 => ?_) ((sub_env (sube_cons rfl (sube_cons rfl (sube_cons rfl (sube_nil))))))
      refine den_seq ?_
      refine den_seq ?_
      refine den_region rfl ?_
      refine o_move rfl rfl guard_none (look_tmp rfl) (fun _ => rfl) ?_
      refine o_faddr field40_5 type38 (by decide) rfl rfl guard_none (look_tmp rfl) (fun _ => rfl) ?_
      refine o_oloadi 1 rfl type38 T_api_Expr_foc5 rfl guard_none (look_tmp rfl) (fun _ => rfl) ?_
      refine o_llen Try.underlying38 rfl rfl guard_none (look_tmp rfl) (fun _ => rfl) ?_
      refine o_lss rfl rfl guard_none (look_tmp rfl) (look_tmp rfl) (fun _ => rfl) (fun _ => rfl) ?_
      refine o_end ?_
      refine den_cond (look_tmp rfl) ?_ ?_
      · refine den_skip ?_
        refine den_seq ?_
        refine den_block ?_
        refine den_seq ?_
        refine den_open (fun z5 h_z5 => ?_)
        refine den_open (fun z6 h_z6 => ?_)
        refine den_open (fun z7 h_z7 => ?_)
        refine den_draw [(55, ⟨Rep.addr, (z1, 0 + 5), true⟩), (56, ⟨(T_api_Expr_rep).slice, a_0.Kids, true⟩), (57, ⟨Rep.int .i64, z4, true⟩), (58, ⟨(T_api_Expr_rep).ptrTo, z5, true⟩), (59, ⟨T_api_Expr_rep, z5, true⟩), (60, ⟨Rep.addr, (z2, 0 + 5), true⟩), (61, ⟨(T_api_Expr_rep).slice, b_1.Kids, true⟩), (62, ⟨Rep.int .i64, z4, true⟩), (63, ⟨(T_api_Expr_rep).ptrTo, z6, true⟩), (64, ⟨T_api_Expr_rep, z6, true⟩), (65, ⟨Rep.bool, z7, true⟩), (66, ⟨Rep.bool, !z7, true⟩)] mixed rfl rfl ⟨?_, ?_, ?_, ?_, ?_, ?_, ?_, ?_, ?_, ?_, ?_, ?_, trivial⟩ ?_
        · intro S hc hk hp
          refine o_faddr field40_5 type38 (by decide) rfl rfl guard_none (look_o rfl rfl) (fun _ => rfl) ?_
          exact d_end rfl rfl rfl
        · intro S hc hk hp
          refine o_oloadi 1 rfl type38 T_api_Expr_foc5 rfl guard_none (look_d rfl rfl (pr hp 0 rfl rfl)) (fun _ => rfl) ?_
          exact d_end rfl rfl rfl
        · intro S hc hk hp
          refine o_move rfl rfl guard_none (look_o rfl rfl) (fun _ => rfl) ?_
          exact d_end rfl rfl rfl
        · intro S hc hk hp
          refine o_from (bind_eqO h_z5) ?_
          refine o_iaddr Try.underlying38 type40 rfl rfl (look_d rfl rfl (pr hp 0 rfl rfl)) (look_d rfl rfl (pr hp 1 rfl rfl)) rfl rfl (o_eqO ?_)
          exact d_end rfl rfl rfl
        · intro S hc hk hp
          refine o_load type40 rfl rfl guard_none (look_d rfl rfl (pr hp 0 rfl rfl)) (fun _ => rfl) ?_
          exact d_end rfl rfl rfl
        · intro S hc hk hp
          refine o_faddr field40_5 type38 (by decide) rfl rfl guard_none (look_o rfl rfl) (fun _ => rfl) ?_
          exact d_end rfl rfl rfl
        · intro S hc hk hp
          refine o_oloadi 0 rfl type38 T_api_Expr_foc5 rfl guard_none (look_d rfl rfl (pr hp 0 rfl rfl)) (fun _ => rfl) ?_
          exact d_end rfl rfl rfl
        · intro S hc hk hp
          refine o_move rfl rfl guard_none (look_o rfl rfl) (fun _ => rfl) ?_
          exact d_end rfl rfl rfl
        · intro S hc hk hp
          refine o_from (bind_eqO h_z6) ?_
          refine o_iaddr Try.underlying38 type40 rfl rfl (look_d rfl rfl (pr hp 0 rfl rfl)) (look_d rfl rfl (pr hp 1 rfl rfl)) rfl rfl (o_eqO ?_)
          exact d_end rfl rfl rfl
        · intro S hc hk hp
          refine o_load type40 rfl rfl guard_none (look_d rfl rfl (pr hp 0 rfl rfl)) (fun _ => rfl) ?_
          exact d_end rfl rfl rfl
        · intro S hc hk hp
          refine o_from (bind_eqO h_z7) ?_
          refine o_call rfl rfl rfl callable20 (looks_cons (look_d rfl rfl (pr hp 0 rfl rfl)) (fun _ => rfl) (looks_cons (look_d rfl rfl (pr hp 1 rfl rfl)) (fun _ => rfl) (looks_nil))) (hrec_plain_Expr _ _) (o_eqO ?_)
          exact d_end rfl rfl rfl
        · intro S hc hk hp
          refine o_not rfl rfl guard_none (look_d rfl rfl (pr hp 0 rfl rfl)) (fun _ => rfl) ?_
          exact d_end rfl rfl rfl
        refine den_cond (look_tmp rfl) ?_ ?_
        · refine den_seq ?_
          refine den_region rfl ?_
          refine o_assign rfl rfl guard_none look_bool (fun _ => rfl) ?_
          refine o_end ?_
          refine den_code_ret ?_
          refine dene_ret ?_
          refine dene_loop (by simp) ?_
          refine dene_ret ?_
          refine dene_both (by simp) ?_
          refine dene_ret ?_
          exact dene_res (res1 rfl (rv_tmp rfl))
        · refine den_skip ?_
          refine den_blkend ?_
          refine den_region rfl ?_
          refine o_move rfl rfl guard_none (look_tmp rfl) (fun _ => rfl) ?_
          refine o_add rfl rfl guard_none (look_tmp rfl) (look_int rfl) (fun _ => rfl) (fun _ => rfl) ?_
          refine o_assign rfl rfl guard_none (look_tmp rfl) (fun _ => rfl) ?_
          refine o_end ?_
          refine den_next ((sub_env (sube_cons rfl (sube_cons rfl (sube_cons rfl (sube_nil))))))
      · refine den_code_exit ?_
        refine dene_out rfl ?_
        refine dene_loop (by simp) ?_
        refine dene_to rfl ?_
        refine den_endl ((Sub.trans (sub_pick [] rfl rfl) (sub_env (sube_nil))))
    refine den_seq ?_
    refine den_region rfl ?_
    refine o_assign rfl rfl guard_none look_bool (fun _ => rfl) ?_
    refine o_end ?_
    refine den_code_ret ?_
    exact dene_res (res1 rfl (rv_tmp rfl))

theorem plain_Expr_ok (N n : Nat) : ∀ (a_0 : T_api_Expr) (b_1 : T_api_Expr), FunOk Try.prog 20 [⟨T_api_Expr_rep, a_0, true⟩, ⟨T_api_Expr_rep, b_1, true⟩] (plain_Expr N n a_0 b_1) (Rep.bool) := by
  induction n with
  | zero => intros; exact fun_none
  | succ n ih => exact plain_Expr_rec_ok N _ ih

theorem law09_PrintShows_ok (fuel : Nat)  (a_0 : T_api_Expr) (b_1 : T_api_Expr) : FunOk Try.prog 5 [⟨T_api_Expr_rep, a_0, true⟩, ⟨T_api_Expr_rep, b_1, true⟩] (law09_PrintShows fuel a_0 b_1) (Rep.bool) := by
  refine fun_ok Try.func5 rfl Try.ntmps5 rfl (all_cons rfl (all_cons rfl all_nil)) (fun w0 ok0 => ?_)
  refine den_seq ?_
  refine den_region rfl ?_
  refine o_box rfl rfl (look_tmp rfl) rfl (fun z1 => ?_)
  refine o_box rfl rfl (look_tmp rfl) rfl (fun z2 => ?_)
  refine o_assign rfl rfl guard_none look_bool (fun _ => rfl) ?_
  refine o_end ?_
  refine den_seq ?_
  refine den_seq ?_
  refine den_region rfl ?_
  refine o_call rfl rfl rfl callable13 (looks_nil) (law09_alive_ok fuel) (fun z3 => ?_)
  refine o_not rfl rfl guard_none (look_tmp rfl) (fun _ => rfl) ?_
  refine o_end ?_
  refine den_cond (look_tmp rfl) ?_ ?_
  · refine den_seq ?_
    refine den_region rfl ?_
    refine o_assign rfl rfl guard_none look_bool (fun _ => rfl) ?_
    refine o_end ?_
    refine den_code_ret ?_
    refine dene_ret ?_
    exact dene_res (res1 rfl (rv_tmp rfl))
  · refine den_skip ?_
    refine den_seq ?_
    refine den_seq ?_
    refine den_region rfl ?_
    refine o_oloadi 1 rfl type40 foc_self rfl guard_none (look_tmp rfl) (fun _ => rfl) ?_
    refine o_call rfl rfl rfl callable17 (looks_cons (look_tmp rfl) (fun _ => rfl) (looks_nil)) (ref07_Check_ok fuel _) (fun z4 => ?_)
    refine o_neq rfl rfl guard_none (look_tmp rfl) (look_int rfl) (fun _ => rfl) (fun _ => rfl) ?_
    refine o_move rfl rfl guard_none (look_tmp rfl) (fun _ => rfl) ?_
    refine o_oloadi 0 rfl type40 foc_self rfl (guard_some rfl rfl rfl) (look_tmp rfl) (fun _ => rfl) ?_
    refine o_callg rfl rfl rfl (guard_some rfl rfl rfl) callable17 (looks_cons (look_tmp rfl) (fun h => h) (looks_nil)) (ref07_Check_ok fuel _) (fun z5 => ?_)
    refine o_neq rfl rfl (guard_some rfl rfl rfl) (look_tmp rfl) (look_int rfl) (fun h => h) (fun _ => rfl) ?_
    refine o_pick rfl rfl guard_none (look_tmp rfl) look_bool (look_tmp rfl) (fun _ => rfl) (fun _ _ => rfl) (fun h1 h2 => pick_f ((fun _ => rfl) h1) h2) ?_
    refine o_move rfl rfl guard_none (look_tmp rfl) (fun _ => rfl) ?_
    refine o_oloadi 1 rfl type40 foc_self rfl (guard_some rfl rfl rfl) (look_tmp rfl) (fun _ => rfl) ?_
    refine o_callg rfl rfl rfl (guard_some rfl rfl rfl) callable19 (looks_cons (look_tmp rfl) (fun h => h) (looks_nil)) (ref09_Expr_ok fuel fuel _) (fun z6 => ?_)
    refine o_slen Try.underlying9 rfl rfl (guard_some rfl rfl rfl) (look_tmp rfl) (fun h => h) ?_
    refine o_gtr rfl rfl (guard_some rfl rfl rfl) (look_tmp rfl) (look_int rfl) (fun h => h) (fun _ => rfl) ?_
    refine o_pick rfl rfl guard_none (look_tmp rfl) look_bool (look_tmp rfl) (fun _ => rfl) (fun _ _ => rfl) (fun h1 h2 => pick_f ((fun _ => rfl) h1) h2) ?_
    refine o_end ?_
    refine den_cond (look_tmp rfl) ?_ ?_
    · refine den_seq ?_
      refine den_region rfl ?_
      refine o_assign rfl rfl guard_none look_bool (fun _ => rfl) ?_
      refine o_end ?_
      refine den_code_ret ?_
      refine dene_ret ?_
      exact dene_res (res1 rfl (rv_tmp rfl))
    · refine den_skip ?_
      refine den_seq ?_
      refine den_open (fun z7 h_z7 => ?_)
      refine den_open (fun z8 h_z8 => ?_)
      refine den_open (fun z9 h_z9 => ?_)
      refine den_draw [(21, ⟨T_api_Expr_rep, a_0, true⟩), (22, ⟨Rep.str, z7, true⟩), (23, ⟨T_api_Expr_rep, b_1, true⟩), (24, ⟨Rep.str, z8, true⟩), (25, ⟨Rep.bool, z7 == z8, true⟩), (26, ⟨T_api_Expr_rep, a_0, true⟩), (27, ⟨T_api_Expr_rep, b_1, true⟩), (28, ⟨Rep.bool, z9, true⟩), (29, ⟨Rep.bool, (z7 == z8) == z9, true⟩), (4, ⟨Rep.bool, (z7 == z8) == z9, true⟩)] mixed rfl rfl ⟨?_, ?_, ?_, ?_, ?_, ?_, ?_, ?_, ?_, ?_, trivial⟩ ?_
      · intro S hc hk hp
        refine o_oloadi 1 rfl type40 foc_self rfl guard_none (look_o rfl rfl) (fun _ => rfl) ?_
        exact d_end rfl rfl rfl
      · intro S hc hk hp
        refine o_from (bind_eqO h_z7) ?_
        refine o_call rfl rfl rfl callable18 (looks_cons (look_d rfl rfl (pr hp 0 rfl rfl)) (fun _ => rfl) (looks_nil)) (print_Expr_ok fuel _) (o_eqO ?_)
        exact d_end rfl rfl rfl
      · intro S hc hk hp
        refine o_oloadi 0 rfl type40 foc_self rfl guard_none (look_o rfl rfl) (fun _ => rfl) ?_
        exact d_end rfl rfl rfl
      · intro S hc hk hp
        refine o_from (bind_eqO h_z8) ?_
        refine o_call rfl rfl rfl callable18 (looks_cons (look_d rfl rfl (pr hp 0 rfl rfl)) (fun _ => rfl) (looks_nil)) (print_Expr_ok fuel _) (o_eqO ?_)
        exact d_end rfl rfl rfl
      · intro S hc hk hp
        refine o_seql rfl rfl guard_none (look_d rfl rfl (pr hp 0 rfl rfl)) (look_d rfl rfl (pr hp 1 rfl rfl)) (fun _ => rfl) (fun _ => rfl) ?_
        exact d_end rfl rfl rfl
      · intro S hc hk hp
        refine o_oloadi 1 rfl type40 foc_self rfl guard_none (look_o rfl rfl) (fun _ => rfl) ?_
        exact d_end rfl rfl rfl
      · intro S hc hk hp
        refine o_oloadi 0 rfl type40 foc_self rfl guard_none (look_o rfl rfl) (fun _ => rfl) ?_
        exact d_end rfl rfl rfl
      · intro S hc hk hp
        refine o_from (bind_eqO h_z9) ?_
        refine o_call rfl rfl rfl callable20 (looks_cons (look_d rfl rfl (pr hp 0 rfl rfl)) (fun _ => rfl) (looks_cons (look_d rfl rfl (pr hp 1 rfl rfl)) (fun _ => rfl) (looks_nil))) (plain_Expr_ok fuel fuel _ _) (o_eqO ?_)
        exact d_end rfl rfl rfl
      · intro S hc hk hp
        refine o_beql Try.underlying4 rfl rfl guard_none (look_d rfl rfl (pr hp 0 rfl rfl)) (look_d rfl rfl (pr hp 1 rfl rfl)) (fun _ => rfl) (fun _ => rfl) ?_
        exact d_end rfl rfl rfl
      · intro S hc hk hp
        refine o_assign rfl rfl guard_none (look_d rfl rfl (pr hp 0 rfl rfl)) (fun _ => rfl) ?_
        exact d_end rfl rfl rfl
      refine den_code_ret ?_
      exact dene_res (res1 rfl (rv_tmp rfl))

end Go.Proofs.Ytmcmdfcdnflpmaa.M
