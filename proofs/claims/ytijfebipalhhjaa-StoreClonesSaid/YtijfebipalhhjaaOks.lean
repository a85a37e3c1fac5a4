/- That the Go functions answer as the plain ones: written by gen2.py. -/
import Derived.Test.YtijfebipalhhjaaOks3
namespace Go.Proofs.Ytijfebipalhhjaa.M
open Go.Eng Go
set_option linter.unusedVariables false

theorem store_Store_Clone_n0_ok   : FunOk Try.prog 19 [⟨.nilp, (), true⟩] (store_Store_Clone_n0) (Rep.nilp) := by
  refine fun_ok Try.func19 rfl Try.ntmps19 rfl (all_cons rfl all_nil) (fun w0 ok0 => ?_)
  refine den_seq ?_
  refine den_region rfl ?_
  refine o_assign rfl rfl guard_none look_nilp (fun _ => rfl) ?_
  refine o_end ?_
  refine den_seq ?_
  refine den_seq ?_
  refine den_region rfl ?_
  refine o_move rfl rfl guard_none (look_tmp rfl) (fun _ => rfl) ?_
  refine o_call rfl rfl rfl callable55 (looks_cons (look_tmp rfl) (fun _ => rfl) (looks_nil)) (store_Store_made_n0_ok) (fun z1 => ?_)
  refine o_not rfl rfl guard_none (look_tmp rfl) (fun _ => rfl) ?_
  refine o_end ?_
  refine den_cond (look_tmp rfl) ?_ ?_
  · refine den_seq ?_
    refine den_region rfl ?_
    refine o_assign rfl rfl guard_none look_nilp (fun _ => rfl) ?_
    refine o_end ?_
    refine den_code_ret ?_
    refine dene_ret ?_
    exact dene_res (res1 rfl (rv_tmp rfl))
  · refine den_skip ?_
    refine den_seq ?_
    exact den_none

theorem law05_StoreNobody_ok  (entity_0 : Bytes) (name_1 : Bytes) (v_2 : T_api_Value) : FunOk Try.prog 6 [⟨Rep.str, entity_0, true⟩, ⟨Rep.str, name_1, true⟩, ⟨T_api_Value_rep, v_2, true⟩] (law05_StoreNobody entity_0 name_1 v_2) (Rep.bool) := by
  refine fun_ok Try.func6 rfl Try.ntmps6 rfl (all_cons rfl (all_cons rfl (all_cons rfl all_nil))) (fun w0 ok0 => ?_)
  refine den_seq ?_
  refine den_region rfl ?_
  refine o_box rfl rfl (look_tmp rfl) rfl (fun z1 => ?_)
  refine o_assign rfl rfl guard_none look_bool (fun _ => rfl) ?_
  refine o_end ?_
  refine den_seq ?_
  refine den_seq ?_
  refine den_region rfl ?_
  refine o_call rfl rfl rfl callable15 (looks_nil) (law05_alive_ok) (fun z2 => ?_)
  refine o_not rfl rfl guard_none (look_tmp rfl) (fun _ => rfl) ?_
  refine o_end ?_
  refine den_cond (look_tmp rfl) ?_ ?_
  · refine den_seq ?_
    refine den_region rfl ?_
    refine o_assign rfl rfl guard_none look_bool (fun _ => rfl) ?_
    refine o_end ?_
    refine den_code_ret ?_
    refine dene_ret ?_
    exact dene_res (res1 rfl (rv_tmp rfl))
  · refine den_skip ?_
    refine den_seq ?_
    refine den_region rfl ?_
    refine o_assign rfl rfl guard_none look_nilp (fun _ => rfl) ?_
    refine o_end ?_
    refine den_seq ?_
    refine den_region rfl ?_
    refine o_weak (sub_nilmap (KR := Rep.str) (VR := Rep.int .i64)) ?_
    refine o_weak (sub_nilmap (KR := T_store_place_rep) (VR := T_api_Value_rep)) ?_
    refine o_build (R := T_store_Store_repo0 (Value.map none) (Value.map none)) (f := T_store_Store_tupo) (y := (⟨none, none⟩ : T_store_Store)) shape52 rfl rfl rfl rfl guard_none (bld_zero (z_isvm rfl) (bld_zero (z_isvm rfl) (bld_nil))) ?_
    refine o_box rfl rfl (look_tmp rfl) rfl (fun z3 => ?_)
    refine o_assign rfl rfl guard_none (look_tmp rfl) (fun _ => rfl) ?_
    refine o_end ?_
    refine den_seq ?_
    refine den_region rfl ?_
    refine o_move rfl rfl guard_none (look_tmp rfl) (fun _ => rfl) ?_
    refine o_move rfl rfl guard_none (look_tmp rfl) (fun _ => rfl) ?_
    refine o_move rfl rfl guard_none (look_tmp rfl) (fun _ => rfl) ?_
    refine o_call rfl rfl rfl callable23 (looks_cons (look_tmp rfl) (fun _ => rfl) (looks_cons (look_tmp rfl) (fun _ => rfl) (looks_cons (look_tmp rfl) (fun _ => rfl) (looks_nil)))) (store_Store_Get_n0_ok _ _) (fun z4 => ?_)
    refine o_move rfl rfl guard_none (look_tmp rfl) (fun _ => rfl) ?_
    refine o_fst rfl rfl guard_none (look_tmp rfl) (fun _ => rfl) ?_
    refine o_snd rfl rfl guard_none (look_tmp rfl) (fun _ => rfl) ?_
    refine o_alloc zero39 rfl rfl (fun z5 => ?_)
    refine o_ostore type39 foc_self guard_none (look_tmp rfl) (fun _ => rfl) (look_tmp rfl) (fun _ => rfl) ?_
    refine o_assign rfl rfl guard_none (look_tmp rfl) (fun _ => rfl) ?_
    refine o_end ?_
    refine den_seq ?_
    refine den_region rfl ?_
    refine o_move rfl rfl guard_none (look_tmp rfl) (fun _ => rfl) ?_
    refine o_move rfl rfl guard_none (look_tmp rfl) (fun _ => rfl) ?_
    refine o_move rfl rfl guard_none (look_tmp rfl) (fun _ => rfl) ?_
    refine o_weak (H' := [] ++ ([.obj true 0 0 (mrep (Value.map none) (Rep.str) (Rep.int .i64)) none, .obj true 0 0 (mrep (Value.map none) (T_store_place_rep) (T_api_Value_rep)) none, .obj true z3 0 (.dat (T_store_Store_repo (Value.map none) (Value.map none))) (⟨none, none⟩ : T_store_Store)] ++ [.obj true z5 0 (.dat T_api_Value_rep) z4.1, .obj true z1 0 (.dat T_api_Value_rep) v_2])) (sub_pick [3, 2, 1, 0, 4] rfl rfl) ?_
    refine o_callU rfl rfl rfl rfl rfl callable23 (looks_cons (look_tmp rfl) (fun _ => rfl) (looks_cons (look_tmp rfl) (fun _ => rfl) (looks_cons (look_tmp rfl) (fun _ => rfl) (looks_nil)))) (.cons (.cons (.cons .nil))) (store_Store_Get_ok _ _ _ _ (⟨none, none⟩ : T_store_Store) entity_0 name_1) (fun _ _ => wr_n) (fun z7α z6 => ?_)
    refine o_weak (H' := [.obj true 0 0 (mrep (Value.map none) (Rep.str) (Rep.int .i64)) none, .obj true 0 0 (mrep (Value.map none) (T_store_place_rep) (T_api_Value_rep)) none, .obj true z3 0 (.dat (T_store_Store_repo (Value.map none) (Value.map none))) (⟨none, none⟩ : T_store_Store), .obj true z5 0 (.dat T_api_Value_rep) z4.1, .obj true z1 0 (.dat T_api_Value_rep) v_2]) (sub_pick [0, 1, 2, 3, 4] rfl rfl) ?_
    refine o_move rfl rfl guard_none (look_tmp rfl) (fun _ => rfl) ?_
    refine o_fst rfl rfl guard_none (look_tmp rfl) (fun _ => rfl) ?_
    refine o_snd rfl rfl guard_none (look_tmp rfl) (fun _ => rfl) ?_
    refine o_alloc zero39 rfl rfl (fun z8 => ?_)
    refine o_ostore type39 foc_self guard_none (look_tmp rfl) (fun _ => rfl) (look_tmp rfl) (fun _ => rfl) ?_
    refine o_assign rfl rfl guard_none (look_tmp rfl) (fun _ => rfl) ?_
    refine o_end ?_
    refine den_seq ?_
    refine den_seq ?_
    refine den_region rfl ?_
    refine o_move rfl rfl guard_none (look_tmp rfl) (fun _ => rfl) ?_
    refine o_move rfl rfl guard_none (look_tmp rfl) (fun _ => rfl) ?_
    refine o_move rfl rfl (guard_some rfl rfl rfl) (look_tmp rfl) (fun _ => rfl) ?_
    refine o_pick rfl rfl guard_none (look_tmp rfl) look_bool (look_tmp rfl) (fun _ => rfl) (fun _ _ => rfl) (fun h1 h2 => pick_f ((fun _ => rfl) h1) h2) ?_
    refine o_move rfl rfl guard_none (look_tmp rfl) (fun _ => rfl) ?_
    refine o_oloadi 4 rfl type39 foc_self rfl (guard_some rfl rfl rfl) (look_tmp rfl) (fun _ => rfl) ?_
    refine o_build (R := T_api_Value_rep0) (f := T_api_Value_tup) (y := (⟨0, 0, [], []⟩ : T_api_Value)) shape39 rfl rfl rfl rfl (guard_some rfl rfl rfl) (bld_zero (z_int rfl) (bld_zero (z_int rfl) (bld_zero (z_str rfl) (bld_zero (z_slice rfl) (bld_nil))))) ?_
    refine o_callg rfl rfl rfl (guard_some rfl rfl rfl) callable25 (looks_cons (look_tmp rfl) (fun h => h) (looks_cons (look_tmp rfl) (fun h => h) (looks_nil))) (plain_Value_ok _ _) (fun z9 => ?_)
    refine o_not rfl rfl (guard_some rfl rfl rfl) (look_tmp rfl) (fun h => h) ?_
    refine o_pick rfl rfl guard_none (look_tmp rfl) look_bool (look_tmp rfl) (fun _ => rfl) (fun _ _ => rfl) (fun h1 h2 => pick_f ((fun _ => rfl) h1) h2) ?_
    refine o_move rfl rfl guard_none (look_tmp rfl) (fun _ => rfl) ?_
    refine o_oloadi 0 rfl type39 foc_self rfl (guard_some rfl rfl rfl) (look_tmp rfl) (fun _ => rfl) ?_
    refine o_build (R := T_api_Value_rep0) (f := T_api_Value_tup) (y := (⟨0, 0, [], []⟩ : T_api_Value)) shape39 rfl rfl rfl rfl (guard_some rfl rfl rfl) (bld_zero (z_int rfl) (bld_zero (z_int rfl) (bld_zero (z_str rfl) (bld_zero (z_slice rfl) (bld_nil))))) ?_
    refine o_callg rfl rfl rfl (guard_some rfl rfl rfl) callable25 (looks_cons (look_tmp rfl) (fun h => h) (looks_cons (look_tmp rfl) (fun h => h) (looks_nil))) (plain_Value_ok _ _) (fun z10 => ?_)
    refine o_not rfl rfl (guard_some rfl rfl rfl) (look_tmp rfl) (fun h => h) ?_
    refine o_pick rfl rfl guard_none (look_tmp rfl) look_bool (look_tmp rfl) (fun _ => rfl) (fun _ _ => rfl) (fun h1 h2 => pick_f ((fun _ => rfl) h1) h2) ?_
    refine o_end ?_
    refine den_cond (look_tmp rfl) ?_ ?_
    · refine den_seq ?_
      refine den_region rfl ?_
      refine o_assign rfl rfl guard_none look_bool (fun _ => rfl) ?_
      refine o_end ?_
      refine den_code_ret ?_
      refine dene_ret ?_
      exact dene_res (res1 rfl (rv_tmp rfl))
    · refine den_skip ?_
      refine den_seq ?_
      refine den_region rfl ?_
      refine o_move rfl rfl guard_none (look_tmp rfl) (fun _ => rfl) ?_
      refine o_move rfl rfl guard_none (look_tmp rfl) (fun _ => rfl) ?_
      refine o_move rfl rfl guard_none (look_tmp rfl) (fun _ => rfl) ?_
      refine o_oloadi 5 rfl type39 foc_self rfl guard_none (look_tmp rfl) (fun _ => rfl) ?_
      refine o_call rfl rfl rfl callable21 (looks_cons (look_tmp rfl) (fun _ => rfl) (looks_cons (look_tmp rfl) (fun _ => rfl) (looks_cons (look_tmp rfl) (fun _ => rfl) (looks_cons (look_tmp rfl) (fun _ => rfl) (looks_nil))))) (store_Store_Set_n0_ok _ _ _) (fun z11 => ?_)
      refine o_eql rfl rfl guard_none (look_tmp rfl) (look_int rfl) (fun _ => rfl) (fun _ => rfl) ?_
      refine o_move rfl rfl guard_none (look_tmp rfl) (fun _ => rfl) ?_
      refine o_move rfl rfl (guard_some rfl rfl rfl) (look_tmp rfl) (fun _ => rfl) ?_
      refine o_move rfl rfl (guard_some rfl rfl rfl) (look_tmp rfl) (fun _ => rfl) ?_
      refine o_move rfl rfl (guard_some rfl rfl rfl) (look_tmp rfl) (fun _ => rfl) ?_
      refine o_oloadi 5 rfl type39 foc_self rfl (guard_some rfl rfl rfl) (look_tmp rfl) (fun _ => rfl) ?_
      refine o_weak (H' := [.obj true 0 0 (mrep (Value.map none) (Rep.str) (Rep.int .i64)) none, .obj true 0 0 (mrep (Value.map none) (T_store_place_rep) (T_api_Value_rep)) none, .obj true z3 0 (.dat (T_store_Store_repo (Value.map none) (Value.map none))) (⟨none, none⟩ : T_store_Store)] ++ ([] ++ [.obj true z8 0 (.dat T_api_Value_rep) z6.1, .obj true z5 0 (.dat T_api_Value_rep) z4.1, .obj true z1 0 (.dat T_api_Value_rep) v_2])) (sub_pick [1, 2, 3, 0, 4, 5] rfl rfl) ?_
      refine o_callX (its := [.obj true 0 0 (mrep (Value.map none) (Rep.str) (Rep.int .i64)) none, .obj true 0 0 (mrep (Value.map none) (T_store_place_rep) (T_api_Value_rep)) none, .obj true z3 0 (.dat (T_store_Store_repo (Value.map none) (Value.map none))) (⟨none, none⟩ : T_store_Store)]) ((0, (⟨none, none⟩ : T_store_Store)) : (Int × T_store_Store)) ((Value.map none), (Value.map none)) rfl rfl rfl rfl (guard_some rfl rfl rfl) callable21 (looks_cons (look_tmp rfl) (fun h => h) (looks_cons (look_tmp rfl) (fun h => h) (looks_cons (look_tmp rfl) (fun h => h) (looks_cons (look_tmp rfl) (fun h => h) (looks_nil))))) .nil (store_Store_Set_ok _ _ _ _ (⟨none, none⟩ : T_store_Store) entity_0 name_1 v_2) (fun _ _ => (wr_c (wr_c (wr_c wr_n)))) ?_ (fun z13α z12 => ?_)
      · exact fun _ => rfl
      obtain ⟨z14, z15⟩ := z13α
      refine o_weak (H' := [.obj true 0 0 (mrep z14 (Rep.str) (Rep.int .i64)) z12.2.kinds, .obj true 0 0 (mrep z15 (T_store_place_rep) (T_api_Value_rep)) z12.2.set, .obj true z3 0 (.dat (T_store_Store_repo z14 z15)) z12.2, .obj true z8 0 (.dat T_api_Value_rep) z6.1, .obj true z5 0 (.dat T_api_Value_rep) z4.1, .obj true z1 0 (.dat T_api_Value_rep) v_2]) (sub_pick [0, 1, 2, 3, 4, 5] rfl rfl) ?_
      refine o_eql rfl rfl (guard_some rfl rfl rfl) (look_tmp rfl) (look_int rfl) (fun h => h) (fun _ => rfl) ?_
      refine o_pick rfl rfl guard_none (look_tmp rfl) (look_tmp rfl) look_bool (fun _ => rfl) (fun h1 h2 => pick_t ((fun _ => rfl) h1) h2) (fun _ _ => rfl) ?_
      refine o_move rfl rfl guard_none (look_tmp rfl) (fun _ => rfl) ?_
      refine o_move rfl rfl (guard_some rfl rfl rfl) (look_tmp rfl) (fun _ => rfl) ?_
      refine o_callg rfl rfl rfl (guard_some rfl rfl rfl) callable19 (looks_cons (look_tmp rfl) (fun h => h) (looks_nil)) (store_Store_Clone_n0_ok) (fun z16 => ?_)
      refine o_neql Try.underlying30 rfl rfl (guard_some rfl rfl rfl) (look_tmp rfl) (fun h => h) ?_
      refine o_pick rfl rfl guard_none (look_tmp rfl) (look_tmp rfl) look_bool (fun _ => rfl) (fun h1 h2 => pick_t ((fun _ => rfl) h1) h2) (fun _ _ => rfl) ?_
      refine o_move rfl rfl guard_none (look_tmp rfl) (fun _ => rfl) ?_
      refine o_move rfl rfl (guard_some rfl rfl rfl) (look_tmp rfl) (fun _ => rfl) ?_
      refine o_weak (H' := [] ++ ([.obj true 0 0 (mrep z14 (Rep.str) (Rep.int .i64)) z12.2.kinds, .obj true 0 0 (mrep z15 (T_store_place_rep) (T_api_Value_rep)) z12.2.set, .obj true z3 0 (.dat (T_store_Store_repo z14 z15)) z12.2] ++ [.obj true z8 0 (.dat T_api_Value_rep) z6.1, .obj true z5 0 (.dat T_api_Value_rep) z4.1, .obj true z1 0 (.dat T_api_Value_rep) v_2])) (sub_pick [0, 1, 2, 3, 4, 5] rfl rfl) ?_
      refine o_callX (its := []) (none : (Option T_store_Store)) ((0, 0), (Value.slice none 0 0), (Value.slice none 0 0)) rfl rfl rfl rfl (guard_some rfl rfl rfl) callable19 (looks_cons (look_tmp rfl) (fun h => h) (looks_nil)) (.cons (.cons (.cons .nil))) (store_Store_Clone_ok _ _ _ _ z12.2) (fun _ _ => (wr_ol (fun _ => (wr_c (wr_c (wr_c wr_n)))) wr_n)) ?_ (fun z18α z17 => ?_)
      · exact fun _ => rfl
      obtain ⟨⟨z19, z20⟩, z21, z22⟩ := z18α
      rcases z17 with _ | z23
      · refine o_weak (H' := [.obj true 0 0 (mrep z14 (Rep.str) (Rep.int .i64)) z12.2.kinds, .obj true 0 0 (mrep z15 (T_store_place_rep) (T_api_Value_rep)) z12.2.set, .obj true z3 0 (.dat (T_store_Store_repo z14 z15)) z12.2, .obj true z8 0 (.dat T_api_Value_rep) z6.1, .obj true z5 0 (.dat T_api_Value_rep) z4.1, .obj true z1 0 (.dat T_api_Value_rep) v_2]) (sub_pick [0, 1, 2, 3, 4, 5] rfl rfl) ?_
        refine o_asnil ?_
        refine o_optn ?_
        refine o_neql Try.underlying30 rfl rfl (guard_some rfl rfl rfl) (look_tmp rfl) (fun h => h) ?_
        refine o_pick rfl rfl guard_none (look_tmp rfl) (look_tmp rfl) look_bool (fun _ => rfl) (fun h1 h2 => pick_t ((fun _ => rfl) h1) h2) (fun _ _ => rfl) ?_
        refine o_move rfl rfl guard_none (look_tmp rfl) (fun _ => rfl) ?_
        refine o_move rfl rfl (guard_some rfl rfl rfl) (look_tmp rfl) (fun _ => rfl) ?_
        refine o_callg rfl rfl rfl (guard_some rfl rfl rfl) callable26 (looks_cons (look_tmp rfl) (fun h => h) (looks_nil)) (store_Store_Count_n0_ok) (fun z24 => ?_)
        refine o_eql rfl rfl (guard_some rfl rfl rfl) (look_tmp rfl) (look_int rfl) (fun h => h) (fun _ => rfl) ?_
        refine o_pick rfl rfl guard_none (look_tmp rfl) (look_tmp rfl) look_bool (fun _ => rfl) (fun h1 h2 => pick_t ((fun _ => rfl) h1) h2) (fun _ _ => rfl) ?_
        refine o_move rfl rfl guard_none (look_tmp rfl) (fun _ => rfl) ?_
        refine o_move rfl rfl (guard_some rfl rfl rfl) (look_tmp rfl) (fun _ => rfl) ?_
        refine o_weak (H' := [] ++ ([.obj true 0 0 (mrep z14 (Rep.str) (Rep.int .i64)) z12.2.kinds, .obj true 0 0 (mrep z15 (T_store_place_rep) (T_api_Value_rep)) z12.2.set, .obj true z3 0 (.dat (T_store_Store_repo z14 z15)) z12.2] ++ [.obj true z8 0 (.dat T_api_Value_rep) z6.1, .obj true z5 0 (.dat T_api_Value_rep) z4.1, .obj true z1 0 (.dat T_api_Value_rep) v_2])) (sub_pick [0, 1, 2, 3, 4, 5] rfl rfl) ?_
        refine o_callX (its := []) (0 : Int) () rfl rfl rfl rfl (guard_some rfl rfl rfl) callable26 (looks_cons (look_tmp rfl) (fun h => h) (looks_nil)) (.cons (.cons (.cons .nil))) (store_Store_Count_ok _ _ _ _ z12.2) (fun _ _ => wr_n) ?_ (fun z26α z25 => ?_)
        · exact fun _ => rfl
        refine o_weak (H' := [.obj true 0 0 (mrep z14 (Rep.str) (Rep.int .i64)) z12.2.kinds, .obj true 0 0 (mrep z15 (T_store_place_rep) (T_api_Value_rep)) z12.2.set, .obj true z3 0 (.dat (T_store_Store_repo z14 z15)) z12.2, .obj true z8 0 (.dat T_api_Value_rep) z6.1, .obj true z5 0 (.dat T_api_Value_rep) z4.1, .obj true z1 0 (.dat T_api_Value_rep) v_2]) (sub_pick [0, 1, 2, 3, 4, 5] rfl rfl) ?_
        refine o_eql rfl rfl (guard_some rfl rfl rfl) (look_tmp rfl) (look_int rfl) (fun h => h) (fun _ => rfl) ?_
        refine o_pick rfl rfl guard_none (look_tmp rfl) (look_tmp rfl) look_bool (fun _ => rfl) (fun h1 h2 => pick_t ((fun _ => rfl) h1) h2) (fun _ _ => rfl) ?_
        refine o_move rfl rfl guard_none (look_tmp rfl) (fun _ => rfl) ?_
        refine o_move rfl rfl (guard_some rfl rfl rfl) (look_tmp rfl) (fun _ => rfl) ?_
        refine o_move rfl rfl (guard_some rfl rfl rfl) (look_tmp rfl) (fun _ => rfl) ?_
        refine o_callg rfl rfl rfl (guard_some rfl rfl rfl) callable27 (looks_cons (look_tmp rfl) (fun h => h) (looks_cons (look_tmp rfl) (fun h => h) (looks_nil))) (store_Store_Names_n0_ok _) (fun z27 => ?_)
        refine o_llen Try.underlying36 rfl rfl (guard_some rfl rfl rfl) (look_tmp rfl) (fun h => h) ?_
        refine o_eql rfl rfl (guard_some rfl rfl rfl) (look_tmp rfl) (look_int rfl) (fun h => h) (fun _ => rfl) ?_
        refine o_pick rfl rfl guard_none (look_tmp rfl) (look_tmp rfl) look_bool (fun _ => rfl) (fun h1 h2 => pick_t ((fun _ => rfl) h1) h2) (fun _ _ => rfl) ?_
        refine o_move rfl rfl guard_none (look_tmp rfl) (fun _ => rfl) ?_
        refine o_move rfl rfl (guard_some rfl rfl rfl) (look_tmp rfl) (fun _ => rfl) ?_
        refine o_move rfl rfl (guard_some rfl rfl rfl) (look_tmp rfl) (fun _ => rfl) ?_
        refine o_weak (H' := [] ++ ([.obj true 0 0 (mrep z14 (Rep.str) (Rep.int .i64)) z12.2.kinds, .obj true 0 0 (mrep z15 (T_store_place_rep) (T_api_Value_rep)) z12.2.set, .obj true z3 0 (.dat (T_store_Store_repo z14 z15)) z12.2] ++ [.obj true z8 0 (.dat T_api_Value_rep) z6.1, .obj true z5 0 (.dat T_api_Value_rep) z4.1, .obj true z1 0 (.dat T_api_Value_rep) v_2])) (sub_pick [0, 1, 2, 3, 4, 5] rfl rfl) ?_
        refine o_callX (its := []) ([] : (List Bytes)) (Value.slice none 0 0) rfl rfl rfl rfl (guard_some rfl rfl rfl) callable27 (looks_cons (look_tmp rfl) (fun h => h) (looks_cons (look_tmp rfl) (fun h => h) (looks_nil))) (.cons (.cons (.cons .nil))) (fun_frozen (store_Store_Names_ok _ _ _ _ z12.2 entity_0)) (fun _ _ => wr_n) ?_ (fun z29α z28 => ?_)
        · exact fun _ => rfl
        refine o_weak (H' := [.obj true 0 0 (mrep z14 (Rep.str) (Rep.int .i64)) z12.2.kinds, .obj true 0 0 (mrep z15 (T_store_place_rep) (T_api_Value_rep)) z12.2.set, .obj true z3 0 (.dat (T_store_Store_repo z14 z15)) z12.2, .obj true z8 0 (.dat T_api_Value_rep) z6.1, .obj true z5 0 (.dat T_api_Value_rep) z4.1, .obj true z1 0 (.dat T_api_Value_rep) v_2]) (sub_pick [0, 1, 2, 3, 4, 5] rfl rfl) ?_
        refine o_llen Try.underlying36 rfl rfl (guard_some rfl rfl rfl) (look_tmp rfl) (fun h => h) ?_
        refine o_eql rfl rfl (guard_some rfl rfl rfl) (look_tmp rfl) (look_int rfl) (fun h => h) (fun _ => rfl) ?_
        refine o_pick rfl rfl guard_none (look_tmp rfl) (look_tmp rfl) look_bool (fun _ => rfl) (fun h1 h2 => pick_t ((fun _ => rfl) h1) h2) (fun _ _ => rfl) ?_
        refine o_move rfl rfl guard_none (look_tmp rfl) (fun _ => rfl) ?_
        refine o_move rfl rfl (guard_some rfl rfl rfl) (look_tmp rfl) (fun _ => rfl) ?_
        refine o_move rfl rfl (guard_some rfl rfl rfl) (look_tmp rfl) (fun _ => rfl) ?_
        refine o_callg rfl rfl rfl (guard_some rfl rfl rfl) callable28 (looks_cons (look_tmp rfl) (fun h => h) (looks_cons (look_tmp rfl) (fun h => h) (looks_nil))) (store_Store_Kind_n0_ok _) (fun z30 => ?_)
        refine o_eql rfl rfl (guard_some rfl rfl rfl) (look_tmp rfl) (look_int rfl) (fun h => h) (fun _ => rfl) ?_
        refine o_pick rfl rfl guard_none (look_tmp rfl) (look_tmp rfl) look_bool (fun _ => rfl) (fun h1 h2 => pick_t ((fun _ => rfl) h1) h2) (fun _ _ => rfl) ?_
        refine o_move rfl rfl guard_none (look_tmp rfl) (fun _ => rfl) ?_
        refine o_move rfl rfl (guard_some rfl rfl rfl) (look_tmp rfl) (fun _ => rfl) ?_
        refine o_move rfl rfl (guard_some rfl rfl rfl) (look_tmp rfl) (fun _ => rfl) ?_
        refine o_weak (H' := [] ++ ([.obj true 0 0 (mrep z14 (Rep.str) (Rep.int .i64)) z12.2.kinds, .obj true 0 0 (mrep z15 (T_store_place_rep) (T_api_Value_rep)) z12.2.set, .obj true z3 0 (.dat (T_store_Store_repo z14 z15)) z12.2] ++ [.obj true z8 0 (.dat T_api_Value_rep) z6.1, .obj true z5 0 (.dat T_api_Value_rep) z4.1, .obj true z1 0 (.dat T_api_Value_rep) v_2])) (sub_pick [0, 1, 2, 3, 4, 5] rfl rfl) ?_
        refine o_callX (its := []) (0 : Int) () rfl rfl rfl rfl (guard_some rfl rfl rfl) callable28 (looks_cons (look_tmp rfl) (fun h => h) (looks_cons (look_tmp rfl) (fun h => h) (looks_nil))) (.cons (.cons (.cons .nil))) (store_Store_Kind_ok _ _ _ _ z12.2 name_1) (fun _ _ => wr_n) ?_ (fun z32α z31 => ?_)
        · exact fun _ => rfl
        refine o_weak (H' := [.obj true 0 0 (mrep z14 (Rep.str) (Rep.int .i64)) z12.2.kinds, .obj true 0 0 (mrep z15 (T_store_place_rep) (T_api_Value_rep)) z12.2.set, .obj true z3 0 (.dat (T_store_Store_repo z14 z15)) z12.2, .obj true z8 0 (.dat T_api_Value_rep) z6.1, .obj true z5 0 (.dat T_api_Value_rep) z4.1, .obj true z1 0 (.dat T_api_Value_rep) v_2]) (sub_pick [0, 1, 2, 3, 4, 5] rfl rfl) ?_
        refine o_eql rfl rfl (guard_some rfl rfl rfl) (look_tmp rfl) (look_int rfl) (fun h => h) (fun _ => rfl) ?_
        refine o_pick rfl rfl guard_none (look_tmp rfl) (look_tmp rfl) look_bool (fun _ => rfl) (fun h1 h2 => pick_t ((fun _ => rfl) h1) h2) (fun _ _ => rfl) ?_
        refine o_assign rfl rfl guard_none (look_tmp rfl) (fun _ => rfl) ?_
        refine o_lt (fun z33 => ?_)
        refine o_end ?_
        refine den_code_ret ?_
        exact dene_res (res1 rfl (rv_tmp rfl))
      · refine o_weak (H' := [.obj true 0 0 (mrep z21 (Rep.str) (Rep.int .i64)) z23.kinds, .obj true 0 0 (mrep z22 (T_store_place_rep) (T_api_Value_rep)) z23.set, .obj true z19 z20 (.dat (T_store_Store_repo z21 z22)) z23, .obj true 0 0 (mrep z14 (Rep.str) (Rep.int .i64)) z12.2.kinds, .obj true 0 0 (mrep z15 (T_store_place_rep) (T_api_Value_rep)) z12.2.set, .obj true z3 0 (.dat (T_store_Store_repo z14 z15)) z12.2, .obj true z8 0 (.dat T_api_Value_rep) z6.1, .obj true z5 0 (.dat T_api_Value_rep) z4.1, .obj true z1 0 (.dat T_api_Value_rep) v_2]) (sub_pick [0, 1, 2, 3, 4, 5, 6, 7, 8] rfl rfl) ?_
        refine o_asptr ?_
        refine o_opts ?_
        refine o_peql Try.underlying30 rfl rfl (guard_some rfl rfl rfl) (look_tmp rfl) (fun h => h) ?_
        refine o_pick rfl rfl guard_none (look_tmp rfl) (look_tmp rfl) look_bool (fun _ => rfl) (fun h1 h2 => pick_t ((fun _ => rfl) h1) h2) (fun _ _ => rfl) ?_
        refine o_move rfl rfl guard_none (look_tmp rfl) (fun _ => rfl) ?_
        refine o_move rfl rfl (guard_some rfl rfl rfl) (look_tmp rfl) (fun _ => rfl) ?_
        refine o_callg rfl rfl rfl (guard_some rfl rfl rfl) callable26 (looks_cons (look_tmp rfl) (fun h => h) (looks_nil)) (store_Store_Count_n0_ok) (fun z34 => ?_)
        refine o_eql rfl rfl (guard_some rfl rfl rfl) (look_tmp rfl) (look_int rfl) (fun h => h) (fun _ => rfl) ?_
        refine o_pick rfl rfl guard_none (look_tmp rfl) (look_tmp rfl) look_bool (fun _ => rfl) (fun h1 h2 => pick_t ((fun _ => rfl) h1) h2) (fun _ _ => rfl) ?_
        refine o_move rfl rfl guard_none (look_tmp rfl) (fun _ => rfl) ?_
        refine o_move rfl rfl (guard_some rfl rfl rfl) (look_tmp rfl) (fun _ => rfl) ?_
        refine o_weak (H' := [] ++ ([.obj true 0 0 (mrep z14 (Rep.str) (Rep.int .i64)) z12.2.kinds, .obj true 0 0 (mrep z15 (T_store_place_rep) (T_api_Value_rep)) z12.2.set, .obj true z3 0 (.dat (T_store_Store_repo z14 z15)) z12.2] ++ [.obj true 0 0 (mrep z21 (Rep.str) (Rep.int .i64)) z23.kinds, .obj true 0 0 (mrep z22 (T_store_place_rep) (T_api_Value_rep)) z23.set, .obj true z19 z20 (.dat (T_store_Store_repo z21 z22)) z23, .obj true z8 0 (.dat T_api_Value_rep) z6.1, .obj true z5 0 (.dat T_api_Value_rep) z4.1, .obj true z1 0 (.dat T_api_Value_rep) v_2])) (sub_pick [3, 4, 5, 0, 1, 2, 6, 7, 8] rfl rfl) ?_
        refine o_callX (its := []) (0 : Int) () rfl rfl rfl rfl (guard_some rfl rfl rfl) callable26 (looks_cons (look_tmp rfl) (fun h => h) (looks_nil)) (.cons (.cons (.cons .nil))) (store_Store_Count_ok _ _ _ _ z12.2) (fun _ _ => wr_n) ?_ (fun z36α z35 => ?_)
        · exact fun _ => rfl
        refine o_weak (H' := [.obj true 0 0 (mrep z14 (Rep.str) (Rep.int .i64)) z12.2.kinds, .obj true 0 0 (mrep z15 (T_store_place_rep) (T_api_Value_rep)) z12.2.set, .obj true z3 0 (.dat (T_store_Store_repo z14 z15)) z12.2, .obj true 0 0 (mrep z21 (Rep.str) (Rep.int .i64)) z23.kinds, .obj true 0 0 (mrep z22 (T_store_place_rep) (T_api_Value_rep)) z23.set, .obj true z19 z20 (.dat (T_store_Store_repo z21 z22)) z23, .obj true z8 0 (.dat T_api_Value_rep) z6.1, .obj true z5 0 (.dat T_api_Value_rep) z4.1, .obj true z1 0 (.dat T_api_Value_rep) v_2]) (sub_pick [0, 1, 2, 3, 4, 5, 6, 7, 8] rfl rfl) ?_
        refine o_eql rfl rfl (guard_some rfl rfl rfl) (look_tmp rfl) (look_int rfl) (fun h => h) (fun _ => rfl) ?_
        refine o_pick rfl rfl guard_none (look_tmp rfl) (look_tmp rfl) look_bool (fun _ => rfl) (fun h1 h2 => pick_t ((fun _ => rfl) h1) h2) (fun _ _ => rfl) ?_
        refine o_move rfl rfl guard_none (look_tmp rfl) (fun _ => rfl) ?_
        refine o_move rfl rfl (guard_some rfl rfl rfl) (look_tmp rfl) (fun _ => rfl) ?_
        refine o_move rfl rfl (guard_some rfl rfl rfl) (look_tmp rfl) (fun _ => rfl) ?_
        refine o_callg rfl rfl rfl (guard_some rfl rfl rfl) callable27 (looks_cons (look_tmp rfl) (fun h => h) (looks_cons (look_tmp rfl) (fun h => h) (looks_nil))) (store_Store_Names_n0_ok _) (fun z37 => ?_)
        refine o_llen Try.underlying36 rfl rfl (guard_some rfl rfl rfl) (look_tmp rfl) (fun h => h) ?_
        refine o_eql rfl rfl (guard_some rfl rfl rfl) (look_tmp rfl) (look_int rfl) (fun h => h) (fun _ => rfl) ?_
        refine o_pick rfl rfl guard_none (look_tmp rfl) (look_tmp rfl) look_bool (fun _ => rfl) (fun h1 h2 => pick_t ((fun _ => rfl) h1) h2) (fun _ _ => rfl) ?_
        refine o_move rfl rfl guard_none (look_tmp rfl) (fun _ => rfl) ?_
        refine o_move rfl rfl (guard_some rfl rfl rfl) (look_tmp rfl) (fun _ => rfl) ?_
        refine o_move rfl rfl (guard_some rfl rfl rfl) (look_tmp rfl) (fun _ => rfl) ?_
        refine o_weak (H' := [] ++ ([.obj true 0 0 (mrep z14 (Rep.str) (Rep.int .i64)) z12.2.kinds, .obj true 0 0 (mrep z15 (T_store_place_rep) (T_api_Value_rep)) z12.2.set, .obj true z3 0 (.dat (T_store_Store_repo z14 z15)) z12.2] ++ [.obj true 0 0 (mrep z21 (Rep.str) (Rep.int .i64)) z23.kinds, .obj true 0 0 (mrep z22 (T_store_place_rep) (T_api_Value_rep)) z23.set, .obj true z19 z20 (.dat (T_store_Store_repo z21 z22)) z23, .obj true z8 0 (.dat T_api_Value_rep) z6.1, .obj true z5 0 (.dat T_api_Value_rep) z4.1, .obj true z1 0 (.dat T_api_Value_rep) v_2])) (sub_pick [0, 1, 2, 3, 4, 5, 6, 7, 8] rfl rfl) ?_
        refine o_callX (its := []) ([] : (List Bytes)) (Value.slice none 0 0) rfl rfl rfl rfl (guard_some rfl rfl rfl) callable27 (looks_cons (look_tmp rfl) (fun h => h) (looks_cons (look_tmp rfl) (fun h => h) (looks_nil))) (.cons (.cons (.cons .nil))) (fun_frozen (store_Store_Names_ok _ _ _ _ z12.2 entity_0)) (fun _ _ => wr_n) ?_ (fun z39α z38 => ?_)
        · exact fun _ => rfl
        refine o_weak (H' := [.obj true 0 0 (mrep z14 (Rep.str) (Rep.int .i64)) z12.2.kinds, .obj true 0 0 (mrep z15 (T_store_place_rep) (T_api_Value_rep)) z12.2.set, .obj true z3 0 (.dat (T_store_Store_repo z14 z15)) z12.2, .obj true 0 0 (mrep z21 (Rep.str) (Rep.int .i64)) z23.kinds, .obj true 0 0 (mrep z22 (T_store_place_rep) (T_api_Value_rep)) z23.set, .obj true z19 z20 (.dat (T_store_Store_repo z21 z22)) z23, .obj true z8 0 (.dat T_api_Value_rep) z6.1, .obj true z5 0 (.dat T_api_Value_rep) z4.1, .obj true z1 0 (.dat T_api_Value_rep) v_2]) (sub_pick [0, 1, 2, 3, 4, 5, 6, 7, 8] rfl rfl) ?_
        refine o_llen Try.underlying36 rfl rfl (guard_some rfl rfl rfl) (look_tmp rfl) (fun h => h) ?_
        refine o_eql rfl rfl (guard_some rfl rfl rfl) (look_tmp rfl) (look_int rfl) (fun h => h) (fun _ => rfl) ?_
        refine o_pick rfl rfl guard_none (look_tmp rfl) (look_tmp rfl) look_bool (fun _ => rfl) (fun h1 h2 => pick_t ((fun _ => rfl) h1) h2) (fun _ _ => rfl) ?_
        refine o_move rfl rfl guard_none (look_tmp rfl) (fun _ => rfl) ?_
        refine o_move rfl rfl (guard_some rfl rfl rfl) (look_tmp rfl) (fun _ => rfl) ?_
        refine o_move rfl rfl (guard_some rfl rfl rfl) (look_tmp rfl) (fun _ => rfl) ?_
        refine o_callg rfl rfl rfl (guard_some rfl rfl rfl) callable28 (looks_cons (look_tmp rfl) (fun h => h) (looks_cons (look_tmp rfl) (fun h => h) (looks_nil))) (store_Store_Kind_n0_ok _) (fun z40 => ?_)
        refine o_eql rfl rfl (guard_some rfl rfl rfl) (look_tmp rfl) (look_int rfl) (fun h => h) (fun _ => rfl) ?_
        refine o_pick rfl rfl guard_none (look_tmp rfl) (look_tmp rfl) look_bool (fun _ => rfl) (fun h1 h2 => pick_t ((fun _ => rfl) h1) h2) (fun _ _ => rfl) ?_
        refine o_move rfl rfl guard_none (look_tmp rfl) (fun _ => rfl) ?_
        refine o_move rfl rfl (guard_some rfl rfl rfl) (look_tmp rfl) (fun _ => rfl) ?_
        refine o_move rfl rfl (guard_some rfl rfl rfl) (look_tmp rfl) (fun _ => rfl) ?_
        refine o_weak (H' := [] ++ ([.obj true 0 0 (mrep z14 (Rep.str) (Rep.int .i64)) z12.2.kinds, .obj true 0 0 (mrep z15 (T_store_place_rep) (T_api_Value_rep)) z12.2.set, .obj true z3 0 (.dat (T_store_Store_repo z14 z15)) z12.2] ++ [.obj true 0 0 (mrep z21 (Rep.str) (Rep.int .i64)) z23.kinds, .obj true 0 0 (mrep z22 (T_store_place_rep) (T_api_Value_rep)) z23.set, .obj true z19 z20 (.dat (T_store_Store_repo z21 z22)) z23, .obj true z8 0 (.dat T_api_Value_rep) z6.1, .obj true z5 0 (.dat T_api_Value_rep) z4.1, .obj true z1 0 (.dat T_api_Value_rep) v_2])) (sub_pick [0, 1, 2, 3, 4, 5, 6, 7, 8] rfl rfl) ?_
        refine o_callX (its := []) (0 : Int) () rfl rfl rfl rfl (guard_some rfl rfl rfl) callable28 (looks_cons (look_tmp rfl) (fun h => h) (looks_cons (look_tmp rfl) (fun h => h) (looks_nil))) (.cons (.cons (.cons .nil))) (store_Store_Kind_ok _ _ _ _ z12.2 name_1) (fun _ _ => wr_n) ?_ (fun z42α z41 => ?_)
        · exact fun _ => rfl
        refine o_weak (H' := [.obj true 0 0 (mrep z14 (Rep.str) (Rep.int .i64)) z12.2.kinds, .obj true 0 0 (mrep z15 (T_store_place_rep) (T_api_Value_rep)) z12.2.set, .obj true z3 0 (.dat (T_store_Store_repo z14 z15)) z12.2, .obj true 0 0 (mrep z21 (Rep.str) (Rep.int .i64)) z23.kinds, .obj true 0 0 (mrep z22 (T_store_place_rep) (T_api_Value_rep)) z23.set, .obj true z19 z20 (.dat (T_store_Store_repo z21 z22)) z23, .obj true z8 0 (.dat T_api_Value_rep) z6.1, .obj true z5 0 (.dat T_api_Value_rep) z4.1, .obj true z1 0 (.dat T_api_Value_rep) v_2]) (sub_pick [0, 1, 2, 3, 4, 5, 6, 7, 8] rfl rfl) ?_
        refine o_eql rfl rfl (guard_some rfl rfl rfl) (look_tmp rfl) (look_int rfl) (fun h => h) (fun _ => rfl) ?_
        refine o_pick rfl rfl guard_none (look_tmp rfl) (look_tmp rfl) look_bool (fun _ => rfl) (fun h1 h2 => pick_t ((fun _ => rfl) h1) h2) (fun _ _ => rfl) ?_
        refine o_assign rfl rfl guard_none (look_tmp rfl) (fun _ => rfl) ?_
        refine o_lt (fun z43 => ?_)
        refine o_end ?_
        refine den_code_ret ?_
        exact dene_res (res1 rfl (rv_tmp rfl))

end Go.Proofs.Ytijfebipalhhjaa.M
