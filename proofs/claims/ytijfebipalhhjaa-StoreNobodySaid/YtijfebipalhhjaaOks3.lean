/- That the Go functions answer as the plain ones: written by gen2.py. -/
import Derived.Test.YtijfebipalhhjaaOks2
namespace Go.Proofs.Ytijfebipalhhjaa.M
open Go.Eng Go
set_option linter.unusedVariables false

set_option maxHeartbeats 1000000 in
theorem law05_StoreClones_ok  (d_0 : (List T_api_Decl)) (a_1 : (List T_law05_Op)) (b_2 : (List T_law05_Op)) (c_3 : (List T_law05_Op)) : FunOk Try.prog 4 [⟨(T_api_Decl_rep).slice, d_0, true⟩, ⟨(T_law05_Op_rep).slice, a_1, true⟩, ⟨(T_law05_Op_rep).slice, b_2, true⟩, ⟨(T_law05_Op_rep).slice, c_3, true⟩] (law05_StoreClones d_0 a_1 b_2 c_3) (Rep.bool) := by
  refine fun_ok Try.func4 rfl Try.ntmps4 rfl (all_cons rfl (all_cons rfl (all_cons rfl (all_cons rfl all_nil)))) (fun w0 ok0 => ?_)
  refine den_seq ?_
  refine den_region rfl ?_
  refine o_assign rfl rfl guard_none look_bool (fun _ => rfl) ?_
  refine o_end ?_
  refine den_seq ?_
  refine den_seq ?_
  refine den_region rfl ?_
  refine o_call rfl rfl rfl callable15 (looks_nil) (law05_alive_ok) (fun z1 => ?_)
  refine o_not rfl rfl guard_none (look_tmp rfl) (fun _ => rfl) ?_
  refine o_end ?_
  refine den_cond (look_tmp rfl) ?_ ?_
  · refine den_seq ?_
    refine den_region rfl ?_
    refine o_assign rfl rfl guard_none look_bool (fun _ => rfl) ?_
    refine o_end ?_
    refine den_code_ret ?_
    refine dene_ret ?_
    exact dene_res (res1 rfl (rv_tmp rfl))
  · refine den_skip ?_
    refine den_seq ?_
    refine den_region rfl ?_
    refine o_move rfl rfl guard_none (look_tmp rfl) (fun _ => rfl) ?_
    refine o_weak (H' := [] ++ ([] ++ [])) (sub_pick [] rfl rfl) ?_
    refine o_callU rfl rfl rfl rfl rfl callable17 (looks_cons (look_tmp rfl) (fun _ => rfl) (looks_nil)) .nil (store_New_ok d_0) (fun _ _ => (wr_c (wr_c (wr_c wr_n)))) (fun z3α z2 => ?_)
    obtain ⟨⟨z4, z5⟩, z6, z7⟩ := z3α
    refine o_weak (H' := [.obj true 0 0 (mrep z6 (Rep.str) (Rep.int .i64)) z2.kinds, .obj true 0 0 (mrep z7 (T_store_place_rep) (T_api_Value_rep)) z2.set, .obj true z4 z5 (.dat (T_store_Store_repo z6 z7)) z2]) (sub_pick [0, 1, 2] rfl rfl) ?_
    refine o_assign rfl rfl guard_none (look_tmp rfl) (fun _ => rfl) ?_
    refine o_end ?_
    refine den_seq ?_
    refine den_region rfl ?_
    refine o_move rfl rfl guard_none (look_tmp rfl) (fun _ => rfl) ?_
    refine o_move rfl rfl guard_none (look_tmp rfl) (fun _ => rfl) ?_
    refine o_build (R := T_ref05_State_rep0) (f := T_ref05_State_tup) (y := (⟨d_0, []⟩ : T_ref05_State)) shape27 rfl rfl rfl rfl guard_none (bld_part rfl rfl (look_tmp rfl) (fun _ => rfl) (bld_zero (z_slice rfl) (bld_nil))) ?_
    refine o_move rfl rfl guard_none (look_tmp rfl) (fun _ => rfl) ?_
    refine o_call rfl rfl rfl callable18 (looks_cons (look_tmp rfl) (fun _ => rfl) (looks_nil)) (law05_few_ok _) (fun z8 => ?_)
    refine o_weak (H' := [.obj true 0 0 (mrep z6 (Rep.str) (Rep.int .i64)) z2.kinds, .obj true 0 0 (mrep z7 (T_store_place_rep) (T_api_Value_rep)) z2.set, .obj true z4 z5 (.dat (T_store_Store_repo z6 z7)) z2] ++ ([] ++ [])) (sub_pick [0, 1, 2] rfl rfl) ?_
    refine o_callU rfl rfl rfl rfl rfl callable16 (looks_cons (look_tmp rfl) (fun _ => rfl) (looks_cons (look_tmp rfl) (fun _ => rfl) (looks_cons (look_tmp rfl) (fun _ => rfl) (looks_nil)))) .nil (law05_run_ok _ _ _ _ z2 (⟨d_0, []⟩ : T_ref05_State) z8) (fun _ _ => (wr_c (wr_c (wr_c wr_n)))) (fun z10α z9 => ?_)
    obtain ⟨z11, z12⟩ := z10α
    refine o_weak (H' := [.obj true 0 0 (mrep z11 (Rep.str) (Rep.int .i64)) z9.2.2.kinds, .obj true 0 0 (mrep z12 (T_store_place_rep) (T_api_Value_rep)) z9.2.2.set, .obj true z4 z5 (.dat (T_store_Store_repo z11 z12)) z9.2.2]) (sub_pick [0, 1, 2] rfl rfl) ?_
    refine o_move rfl rfl guard_none (look_tmp rfl) (fun _ => rfl) ?_
    refine o_fst rfl rfl guard_none (look_tmp rfl) (fun _ => rfl) ?_
    refine o_snd rfl rfl guard_none (look_tmp rfl) (fun _ => rfl) ?_
    refine o_alloc zero27 rfl rfl (fun z13 => ?_)
    refine o_ostore type27 foc_self guard_none (look_tmp rfl) (fun _ => rfl) (look_tmp rfl) (fun _ => rfl) ?_
    refine o_assign rfl rfl guard_none (look_tmp rfl) (fun _ => rfl) ?_
    refine o_end ?_
    refine den_seq ?_
    refine den_region rfl ?_
    refine o_move rfl rfl guard_none (look_tmp rfl) (fun _ => rfl) ?_
    refine o_weak (H' := [] ++ ([.obj true 0 0 (mrep z11 (Rep.str) (Rep.int .i64)) z9.2.2.kinds, .obj true 0 0 (mrep z12 (T_store_place_rep) (T_api_Value_rep)) z9.2.2.set, .obj true z4 z5 (.dat (T_store_Store_repo z11 z12)) z9.2.2] ++ [.obj true z13 0 (.dat T_ref05_State_rep) z9.1])) (sub_pick [1, 2, 3, 0] rfl rfl) ?_
    refine o_callU rfl rfl rfl rfl rfl callable19 (looks_cons (look_tmp rfl) (fun _ => rfl) (looks_nil)) (.cons (.cons (.cons .nil))) (store_Store_Clone_ok _ _ _ _ z9.2.2) (fun _ _ => (wr_ol (fun _ => (wr_c (wr_c (wr_c wr_n)))) wr_n)) (fun z15α z14 => ?_)
    obtain ⟨⟨z16, z17⟩, z18, z19⟩ := z15α
    rcases z14 with _ | z20
    · refine o_weak (H' := [.obj true 0 0 (mrep z11 (Rep.str) (Rep.int .i64)) z9.2.2.kinds, .obj true 0 0 (mrep z12 (T_store_place_rep) (T_api_Value_rep)) z9.2.2.set, .obj true z4 z5 (.dat (T_store_Store_repo z11 z12)) z9.2.2, .obj true z13 0 (.dat T_ref05_State_rep) z9.1]) (sub_pick [0, 1, 2, 3] rfl rfl) ?_
      refine o_asnil ?_
      refine o_optn ?_
      refine o_assign rfl rfl guard_none (look_tmp rfl) (fun _ => rfl) ?_
      refine o_end ?_
      refine den_seq ?_
      refine den_open (fun z22 h_z22 => ?_)
      refine den_open (fun z23 h_z23 => ?_)
      have hB : ∀ (z21α : ((Value × Value) × Nat)) (S : Nat → Bool) (b4 b8 b9 : Bool), S 4 = b4 → S 8 = b8 → S 9 = b9 → (([(cond (S 4) (.gone) (.obj true 0 0 (mrep z11 (Rep.str) (Rep.int .i64)) z9.2.2.kinds)), (cond (S 4) (.gone) (.obj true 0 0 (mrep z12 (T_store_place_rep) (T_api_Value_rep)) z9.2.2.set)), (cond (S 4) (.obj true z4 z5 (.dat (T_store_Store_repo z21α.1.1 z21α.1.2)) z23.2.2) (.obj true z4 z5 (.dat (T_store_Store_repo z11 z12)) z9.2.2)), .obj true z13 0 (.dat T_ref05_State_rep) z9.1, (cond (S 4) (.obj true 0 0 (mrep (z21α.1.1) (Rep.str) (Rep.int .i64)) z23.2.2.kinds) (.gone)), (cond (S 4) (.obj true 0 0 (mrep (z21α.1.2) (T_store_place_rep) (T_api_Value_rep)) z23.2.2.set) (.gone)), (cond (S 9) (.obj true (z21α.2) 0 (.dat T_ref05_State_rep) z23.1) ((cond (S 8) (.obj true (z21α.2) 0 (.dat T_ref05_State_rep) T_ref05_State_zero) (.gone))))] : List Go.Eng.Item)) = ([(cond b4 (.gone) (.obj true 0 0 (mrep z11 (Rep.str) (Rep.int .i64)) z9.2.2.kinds)), (cond b4 (.gone) (.obj true 0 0 (mrep z12 (T_store_place_rep) (T_api_Value_rep)) z9.2.2.set)), (cond b4 (.obj true z4 z5 (.dat (T_store_Store_repo z21α.1.1 z21α.1.2)) z23.2.2) (.obj true z4 z5 (.dat (T_store_Store_repo z11 z12)) z9.2.2)), .obj true z13 0 (.dat T_ref05_State_rep) z9.1, (cond b4 (.obj true 0 0 (mrep (z21α.1.1) (Rep.str) (Rep.int .i64)) z23.2.2.kinds) (.gone)), (cond b4 (.obj true 0 0 (mrep (z21α.1.2) (T_store_place_rep) (T_api_Value_rep)) z23.2.2.set) (.gone)), (cond b9 (.obj true (z21α.2) 0 (.dat T_ref05_State_rep) z23.1) ((cond b8 (.obj true (z21α.2) 0 (.dat T_ref05_State_rep) T_ref05_State_zero) (.gone))))] : List Go.Eng.Item) := fun z21α S b4 b8 b9 h4 h8 h9 => by subst h4; subst h8; subst h9; rfl
      refine den_weak sub_gone ?_
      refine den_weak sub_gone ?_
      refine den_weak sub_gone ?_
      refine den_weak (sub_pick (H' := [.obj true 0 0 (mrep z11 (Rep.str) (Rep.int .i64)) z9.2.2.kinds, .obj true 0 0 (mrep z12 (T_store_place_rep) (T_api_Value_rep)) z9.2.2.set, .obj true z4 z5 (.dat (T_store_Store_repo z11 z12)) z9.2.2, .obj true z13 0 (.dat T_ref05_State_rep) z9.1, .gone, .gone, .gone]) [3, 4, 5, 6, 0, 1, 2] rfl rfl) ?_
      refine den_drawA (A := ((Value × Value) × Nat)) (H' := fun z21α => [.gone, .gone, .obj true z4 z5 (.dat (T_store_Store_repo z21α.1.1 z21α.1.2)) z23.2.2, .obj true z13 0 (.dat T_ref05_State_rep) z9.1, .obj true 0 0 (mrep (z21α.1.1) (Rep.str) (Rep.int .i64)) z23.2.2.kinds, .obj true 0 0 (mrep (z21α.1.2) (T_store_place_rep) (T_api_Value_rep)) z23.2.2.set, .obj true (z21α.2) 0 (.dat T_ref05_State_rep) z23.1]) (fun z21α => [(37, ⟨Rep.addr, (z4, z5), true⟩), (38, ⟨T_ref05_State_rep, z9.1, true⟩), (39, ⟨(T_law05_Op_rep).slice, b_2, true⟩), (40, ⟨(T_law05_Op_rep).slice, z22, true⟩), (41, ⟨Rep.pair (T_ref05_State_rep) (Rep.bool), (z23.1, z23.2.1), true⟩), (36, ⟨Rep.pair (T_ref05_State_rep) (Rep.bool), (z23.1, z23.2.1), true⟩), (42, ⟨T_ref05_State_rep, z23.1, true⟩), (43, ⟨Rep.bool, z23.2.1, true⟩), (13, ⟨Rep.addr, (z21α.2, 0), true⟩), (90, ⟨.any, (), false⟩), (14, ⟨Rep.bool, z23.2.1, true⟩)]) (fun z21α S => [(cond (S 4) (.gone) (.obj true 0 0 (mrep z11 (Rep.str) (Rep.int .i64)) z9.2.2.kinds)), (cond (S 4) (.gone) (.obj true 0 0 (mrep z12 (T_store_place_rep) (T_api_Value_rep)) z9.2.2.set)), (cond (S 4) (.obj true z4 z5 (.dat (T_store_Store_repo z21α.1.1 z21α.1.2)) z23.2.2) (.obj true z4 z5 (.dat (T_store_Store_repo z11 z12)) z9.2.2)), .obj true z13 0 (.dat T_ref05_State_rep) z9.1, (cond (S 4) (.obj true 0 0 (mrep (z21α.1.1) (Rep.str) (Rep.int .i64)) z23.2.2.kinds) (.gone)), (cond (S 4) (.obj true 0 0 (mrep (z21α.1.2) (T_store_place_rep) (T_api_Value_rep)) z23.2.2.set) (.gone)), (cond (S 9) (.obj true (z21α.2) 0 (.dat T_ref05_State_rep) z23.1) ((cond (S 8) (.obj true (z21α.2) 0 (.dat T_ref05_State_rep) T_ref05_State_zero) (.gone))))]) (((Value.slice none 0 0), (Value.slice none 0 0)), 0) mixed (fun _ => rfl) rfl rfl (fun z21α S hS => hB z21α S true true true (hS 4 (by decide)) (hS 8 (by decide)) (hS 9 (by decide))) ⟨?_, ?_, ?_, ?_, ?_, ?_, ?_, ?_, ?_, ?_, ?_, trivial⟩ (fun z21α => ?_)
      · intro z21α S hc hk hp
        have e4 : S 4 = false := (not_yet (j := 4) (q := 0) hc hk rfl rfl rfl rfl)
        have e9 : S 9 = false := (not_yet (j := 9) (q := 3) hc hk rfl rfl rfl rfl)
        refine eq_H (H' := [.obj true 0 0 (mrep z11 (Rep.str) (Rep.int .i64)) z9.2.2.kinds, .obj true 0 0 (mrep z12 (T_store_place_rep) (T_api_Value_rep)) z9.2.2.set, .obj true z4 z5 (.dat (T_store_Store_repo z11 z12)) z9.2.2, .obj true z13 0 (.dat T_ref05_State_rep) z9.1, .gone, .gone, (cond (S 8) (.obj true (z21α.2) 0 (.dat T_ref05_State_rep) T_ref05_State_zero) (.gone))]) (by first | exact hB z21α S false (S 8) false e4 rfl e9 | (have q := hB z21α S false (S 8) false e4 rfl e9; simp only [cond_true, cond_false] at q; exact q)) ?_
        refine o_move rfl rfl guard_none (look_o rfl rfl) (fun _ => rfl) ?_
        apply h_endA (α := z21α) (z21α.1, z21α.2)
        · exact (.same (.same (.same (.same (.same (.same (.same (.same (.same (.same (.same .nil)))))))))))
        · exact rfl
        · exact rfl
        · exact rfl
        · exact hB (z21α.1, z21α.2) (fun k => S k || Nat.beq k 0) false (S 8) false (or_f e4 rfl) (or_ne rfl) (or_f e9 rfl)
      · intro z21α S hc hk hp
        have e4 : S 4 = false := (not_yet (j := 4) (q := 1) hc hk rfl rfl rfl rfl)
        have e9 : S 9 = false := (not_yet (j := 9) (q := 4) hc hk rfl rfl rfl rfl)
        refine eq_H (H' := [.obj true 0 0 (mrep z11 (Rep.str) (Rep.int .i64)) z9.2.2.kinds, .obj true 0 0 (mrep z12 (T_store_place_rep) (T_api_Value_rep)) z9.2.2.set, .obj true z4 z5 (.dat (T_store_Store_repo z11 z12)) z9.2.2, .obj true z13 0 (.dat T_ref05_State_rep) z9.1, .gone, .gone, (cond (S 8) (.obj true (z21α.2) 0 (.dat T_ref05_State_rep) T_ref05_State_zero) (.gone))]) (by first | exact hB z21α S false (S 8) false e4 rfl e9 | (have q := hB z21α S false (S 8) false e4 rfl e9; simp only [cond_true, cond_false] at q; exact q)) ?_
        refine o_oloadi 3 rfl type27 foc_self rfl guard_none (look_o rfl rfl) (fun _ => rfl) ?_
        apply h_endA (α := z21α) (z21α.1, z21α.2)
        · exact (.same (.same (.same (.same (.same (.same (.same (.same (.same (.same (.same .nil)))))))))))
        · exact rfl
        · exact rfl
        · exact rfl
        · exact hB (z21α.1, z21α.2) (fun k => S k || Nat.beq k 1) false (S 8) false (or_f e4 rfl) (or_ne rfl) (or_f e9 rfl)
      · intro z21α S hc hk hp
        have e4 : S 4 = false := (not_yet (j := 4) (q := 2) hc (not_yet (j := 3) (q := 0) hc hk rfl rfl rfl rfl) rfl rfl rfl rfl)
        have e9 : S 9 = false := (not_yet (j := 9) (q := 5) hc hk rfl rfl rfl rfl)
        refine eq_H (H' := [.obj true 0 0 (mrep z11 (Rep.str) (Rep.int .i64)) z9.2.2.kinds, .obj true 0 0 (mrep z12 (T_store_place_rep) (T_api_Value_rep)) z9.2.2.set, .obj true z4 z5 (.dat (T_store_Store_repo z11 z12)) z9.2.2, .obj true z13 0 (.dat T_ref05_State_rep) z9.1, .gone, .gone, (cond (S 8) (.obj true (z21α.2) 0 (.dat T_ref05_State_rep) T_ref05_State_zero) (.gone))]) (by first | exact hB z21α S false (S 8) false e4 rfl e9 | (have q := hB z21α S false (S 8) false e4 rfl e9; simp only [cond_true, cond_false] at q; exact q)) ?_
        refine o_move rfl rfl guard_none (look_o rfl rfl) (fun _ => rfl) ?_
        apply h_endA (α := z21α) (z21α.1, z21α.2)
        · exact (.same (.same (.same (.same (.same (.same (.same (.same (.same (.same (.same .nil)))))))))))
        · exact rfl
        · exact rfl
        · exact rfl
        · exact hB (z21α.1, z21α.2) (fun k => S k || Nat.beq k 2) false (S 8) false (or_f e4 rfl) (or_ne rfl) (or_f e9 rfl)
      · intro z21α S hc hk hp
        have e4 : S 4 = false := (not_yet (j := 4) (q := 2) hc hk rfl rfl rfl rfl)
        have e9 : S 9 = false := (not_yet (j := 9) (q := 6) hc hk rfl rfl rfl rfl)
        refine eq_H (H' := [.obj true 0 0 (mrep z11 (Rep.str) (Rep.int .i64)) z9.2.2.kinds, .obj true 0 0 (mrep z12 (T_store_place_rep) (T_api_Value_rep)) z9.2.2.set, .obj true z4 z5 (.dat (T_store_Store_repo z11 z12)) z9.2.2, .obj true z13 0 (.dat T_ref05_State_rep) z9.1, .gone, .gone, (cond (S 8) (.obj true (z21α.2) 0 (.dat T_ref05_State_rep) T_ref05_State_zero) (.gone))]) (by first | exact hB z21α S false (S 8) false e4 rfl e9 | (have q := hB z21α S false (S 8) false e4 rfl e9; simp only [cond_true, cond_false] at q; exact q)) ?_
        refine o_from (bind_eqO h_z22) ?_
        refine o_call rfl rfl rfl callable18 (looks_cons (look_d rfl rfl (pr hp 0 rfl rfl)) (fun _ => rfl) (looks_nil)) (law05_few_ok _) (o_eqO ?_)
        apply h_endA (α := z21α) (z21α.1, z21α.2)
        · exact (.same (.same (.same (.same (.same (.same (.same (.same (.same (.same (.same .nil)))))))))))
        · exact rfl
        · exact rfl
        · exact rfl
        · exact hB (z21α.1, z21α.2) (fun k => S k || Nat.beq k 3) false (S 8) false (or_f e4 rfl) (or_ne rfl) (or_f e9 rfl)
      · intro z21α S hc hk hp
        have e9 : S 9 = false := (not_yet (j := 9) (q := 2) hc hk rfl rfl rfl rfl)
        refine eq_H (H' := [.obj true 0 0 (mrep z11 (Rep.str) (Rep.int .i64)) z9.2.2.kinds, .obj true 0 0 (mrep z12 (T_store_place_rep) (T_api_Value_rep)) z9.2.2.set, .obj true z4 z5 (.dat (T_store_Store_repo z11 z12)) z9.2.2, .obj true z13 0 (.dat T_ref05_State_rep) z9.1, .gone, .gone, (cond (S 8) (.obj true (z21α.2) 0 (.dat T_ref05_State_rep) T_ref05_State_zero) (.gone))]) (by first | exact hB z21α S false (S 8) false hk rfl e9 | (have q := hB z21α S false (S 8) false hk rfl e9; simp only [cond_true, cond_false] at q; exact q)) ?_
        refine o_from (bind_eqO h_z23) ?_
        refine o_weak (H' := [.obj true 0 0 (mrep z11 (Rep.str) (Rep.int .i64)) z9.2.2.kinds, .obj true 0 0 (mrep z12 (T_store_place_rep) (T_api_Value_rep)) z9.2.2.set, .obj true z4 z5 (.dat (T_store_Store_repo z11 z12)) z9.2.2] ++ ([] ++ [.obj true z13 0 (.dat T_ref05_State_rep) z9.1, .gone, .gone, (cond (S 8) (.obj true (z21α.2) 0 (.dat T_ref05_State_rep) T_ref05_State_zero) (.gone))])) (sub_pick [0, 1, 2, 3, 4, 5, 6] rfl rfl) ?_
        refine o_callU rfl rfl rfl rfl rfl callable16 (looks_cons (look_d rfl rfl (pr hp 0 rfl rfl)) (fun _ => rfl) (looks_cons (look_d rfl rfl (pr hp 1 rfl rfl)) (fun _ => rfl) (looks_cons (look_d rfl rfl (pr hp 2 rfl rfl)) (fun _ => rfl) (looks_nil)))) .nil (law05_run_ok _ _ _ _ z9.2.2 z9.1 z22) (fun _ _ => (wr_c (wr_c (wr_c wr_n)))) (fun z24α => o_eqOH ?_)
        refine o_weak (H' := [.obj true 0 0 (mrep z24α.1 (Rep.str) (Rep.int .i64)) z23.2.2.kinds, .obj true 0 0 (mrep z24α.2 (T_store_place_rep) (T_api_Value_rep)) z23.2.2.set, .obj true z4 z5 (.dat (T_store_Store_repo z24α.1 z24α.2)) z23.2.2, .obj true z13 0 (.dat T_ref05_State_rep) z9.1, .gone, .gone, (cond (S 8) (.obj true (z21α.2) 0 (.dat T_ref05_State_rep) T_ref05_State_zero) (.gone))]) (sub_pick [0, 1, 2, 3, 4, 5, 6] rfl rfl) ?_
        refine o_weak sub_gone ?_
        refine o_weak sub_gone ?_
        refine o_weak (H' := [.gone, .gone, .obj true z4 z5 (.dat (T_store_Store_repo z24α.1 z24α.2)) z23.2.2, .obj true z13 0 (.dat T_ref05_State_rep) z9.1, .obj true 0 0 (mrep z24α.1 (Rep.str) (Rep.int .i64)) z23.2.2.kinds, .obj true 0 0 (mrep z24α.2 (T_store_place_rep) (T_api_Value_rep)) z23.2.2.set, (cond (S 8) (.obj true (z21α.2) 0 (.dat T_ref05_State_rep) T_ref05_State_zero) (.gone))]) (sub_pick [1, 0, 4, 5, 2, 3, 8] rfl rfl) ?_
        apply h_endA (α := z21α) (z24α, z21α.2)
        · exact (.same (.same (.same (.same (.same (.same (.same (.same (.same (.same (.same .nil)))))))))))
        · exact rfl
        · exact rfl
        · exact rfl
        · exact hB (z24α, z21α.2) (fun k => S k || Nat.beq k 4) true (S 8) false (or_i rfl) (or_ne rfl) (or_f e9 rfl)
      · intro z21α S hc hk hp
        have e4 : S 4 = true := (pr hp 0 rfl rfl)
        have e9 : S 9 = false := (not_yet (j := 9) (q := 8) hc hk rfl rfl rfl rfl)
        refine eq_H (H' := [.gone, .gone, .obj true z4 z5 (.dat (T_store_Store_repo z21α.1.1 z21α.1.2)) z23.2.2, .obj true z13 0 (.dat T_ref05_State_rep) z9.1, .obj true 0 0 (mrep (z21α.1.1) (Rep.str) (Rep.int .i64)) z23.2.2.kinds, .obj true 0 0 (mrep (z21α.1.2) (T_store_place_rep) (T_api_Value_rep)) z23.2.2.set, (cond (S 8) (.obj true (z21α.2) 0 (.dat T_ref05_State_rep) T_ref05_State_zero) (.gone))]) (by first | exact hB z21α S true (S 8) false e4 rfl e9 | (have q := hB z21α S true (S 8) false e4 rfl e9; simp only [cond_true, cond_false] at q; exact q)) ?_
        refine o_move rfl rfl guard_none (look_d rfl rfl (pr hp 0 rfl rfl)) (fun _ => rfl) ?_
        apply h_endA (α := z21α) (z21α.1, z21α.2)
        · exact (.same (.same (.same (.same (.same (.same (.same (.same (.same (.same (.same .nil)))))))))))
        · exact rfl
        · exact rfl
        · exact rfl
        · exact hB (z21α.1, z21α.2) (fun k => S k || Nat.beq k 5) true (S 8) false (or_t e4) (or_ne rfl) (or_f e9 rfl)
      · intro z21α S hc hk hp
        have e4 : S 4 = true := (pr (hc 5 _ rfl (pr hp 0 rfl rfl)) 0 rfl rfl)
        have e9 : S 9 = false := (not_yet (j := 9) (q := 1) hc hk rfl rfl rfl rfl)
        refine eq_H (H' := [.gone, .gone, .obj true z4 z5 (.dat (T_store_Store_repo z21α.1.1 z21α.1.2)) z23.2.2, .obj true z13 0 (.dat T_ref05_State_rep) z9.1, .obj true 0 0 (mrep (z21α.1.1) (Rep.str) (Rep.int .i64)) z23.2.2.kinds, .obj true 0 0 (mrep (z21α.1.2) (T_store_place_rep) (T_api_Value_rep)) z23.2.2.set, (cond (S 8) (.obj true (z21α.2) 0 (.dat T_ref05_State_rep) T_ref05_State_zero) (.gone))]) (by first | exact hB z21α S true (S 8) false e4 rfl e9 | (have q := hB z21α S true (S 8) false e4 rfl e9; simp only [cond_true, cond_false] at q; exact q)) ?_
        refine o_fst rfl rfl guard_none (look_d rfl rfl (pr hp 0 rfl rfl)) (fun _ => rfl) ?_
        apply h_endA (α := z21α) (z21α.1, z21α.2)
        · exact (.same (.same (.same (.same (.same (.same (.same (.same (.same (.same (.same .nil)))))))))))
        · exact rfl
        · exact rfl
        · exact rfl
        · exact hB (z21α.1, z21α.2) (fun k => S k || Nat.beq k 6) true (S 8) false (or_t e4) (or_ne rfl) (or_f e9 rfl)
      · intro z21α S hc hk hp
        have e4 : S 4 = true := (pr (hc 5 _ rfl (pr hp 0 rfl rfl)) 0 rfl rfl)
        refine eq_H (H' := [.gone, .gone, .obj true z4 z5 (.dat (T_store_Store_repo z21α.1.1 z21α.1.2)) z23.2.2, .obj true z13 0 (.dat T_ref05_State_rep) z9.1, .obj true 0 0 (mrep (z21α.1.1) (Rep.str) (Rep.int .i64)) z23.2.2.kinds, .obj true 0 0 (mrep (z21α.1.2) (T_store_place_rep) (T_api_Value_rep)) z23.2.2.set, (cond (S 9) (.obj true (z21α.2) 0 (.dat T_ref05_State_rep) z23.1) ((cond (S 8) (.obj true (z21α.2) 0 (.dat T_ref05_State_rep) T_ref05_State_zero) (.gone))))]) (by first | exact hB z21α S true (S 8) (S 9) e4 rfl rfl | (have q := hB z21α S true (S 8) (S 9) e4 rfl rfl; simp only [cond_true, cond_false] at q; exact q)) ?_
        refine o_snd rfl rfl guard_none (look_d rfl rfl (pr hp 0 rfl rfl)) (fun _ => rfl) ?_
        apply h_endA (α := z21α) (z21α.1, z21α.2)
        · exact (.same (.same (.same (.same (.same (.same (.same (.same (.same (.same (.same .nil)))))))))))
        · exact rfl
        · exact rfl
        · exact rfl
        · exact hB (z21α.1, z21α.2) (fun k => S k || Nat.beq k 7) true (S 8) (S 9) (or_t e4) (or_ne rfl) (or_ne rfl)
      · intro z21α S hc hk hp
        have e9 : S 9 = false := (not_yet (j := 9) (q := 0) hc hk rfl rfl rfl rfl)
        refine eq_H (H' := [(cond (S 4) (.gone) (.obj true 0 0 (mrep z11 (Rep.str) (Rep.int .i64)) z9.2.2.kinds)), (cond (S 4) (.gone) (.obj true 0 0 (mrep z12 (T_store_place_rep) (T_api_Value_rep)) z9.2.2.set)), (cond (S 4) (.obj true z4 z5 (.dat (T_store_Store_repo z21α.1.1 z21α.1.2)) z23.2.2) (.obj true z4 z5 (.dat (T_store_Store_repo z11 z12)) z9.2.2)), .obj true z13 0 (.dat T_ref05_State_rep) z9.1, (cond (S 4) (.obj true 0 0 (mrep (z21α.1.1) (Rep.str) (Rep.int .i64)) z23.2.2.kinds) (.gone)), (cond (S 4) (.obj true 0 0 (mrep (z21α.1.2) (T_store_place_rep) (T_api_Value_rep)) z23.2.2.set) (.gone)), .gone]) (by first | exact hB z21α S (S 4) false false rfl hk e9 | (have q := hB z21α S (S 4) false false rfl hk e9; simp only [cond_true, cond_false] at q; exact q)) ?_
        refine o_alloc zero27 rfl rfl (fun z25 => ?_)
        refine o_weak (H' := [(cond (S 4) (.gone) (.obj true 0 0 (mrep z11 (Rep.str) (Rep.int .i64)) z9.2.2.kinds)), (cond (S 4) (.gone) (.obj true 0 0 (mrep z12 (T_store_place_rep) (T_api_Value_rep)) z9.2.2.set)), (cond (S 4) (.obj true z4 z5 (.dat (T_store_Store_repo z21α.1.1 z21α.1.2)) z23.2.2) (.obj true z4 z5 (.dat (T_store_Store_repo z11 z12)) z9.2.2)), .obj true z13 0 (.dat T_ref05_State_rep) z9.1, (cond (S 4) (.obj true 0 0 (mrep (z21α.1.1) (Rep.str) (Rep.int .i64)) z23.2.2.kinds) (.gone)), (cond (S 4) (.obj true 0 0 (mrep (z21α.1.2) (T_store_place_rep) (T_api_Value_rep)) z23.2.2.set) (.gone)), .obj true z25 0 (.dat T_ref05_State_rep) T_ref05_State_zero]) (sub_pick [1, 2, 3, 4, 5, 6, 0] rfl rfl) ?_
        apply h_endA (α := z21α) (z21α.1, z25)
        · exact (.same (.same (.same (.same (.same (.same (.same (.same (.off hk (.same (.same .nil)))))))))))
        · exact rfl
        · exact rfl
        · exact rfl
        · exact hB (z21α.1, z25) (fun k => S k || Nat.beq k 8) (S 4) true false (or_ne rfl) (or_i rfl) (or_f e9 rfl)
      · intro z21α S hc hk hp
        have e4 : S 4 = true := (pr hp 2 rfl rfl)
        have e8 : S 8 = true := (pr hp 0 rfl rfl)
        refine eq_H (H' := [.gone, .gone, .obj true z4 z5 (.dat (T_store_Store_repo z21α.1.1 z21α.1.2)) z23.2.2, .obj true z13 0 (.dat T_ref05_State_rep) z9.1, .obj true 0 0 (mrep (z21α.1.1) (Rep.str) (Rep.int .i64)) z23.2.2.kinds, .obj true 0 0 (mrep (z21α.1.2) (T_store_place_rep) (T_api_Value_rep)) z23.2.2.set, .obj true (z21α.2) 0 (.dat T_ref05_State_rep) T_ref05_State_zero]) (by first | exact hB z21α S true true false e4 e8 hk | (have q := hB z21α S true true false e4 e8 hk; simp only [cond_true, cond_false] at q; exact q)) ?_
        refine o_weak (H' := [.obj true (z21α.2) 0 (.dat T_ref05_State_rep) T_ref05_State_zero, .gone, .gone, .obj true z4 z5 (.dat (T_store_Store_repo z21α.1.1 z21α.1.2)) z23.2.2, .obj true z13 0 (.dat T_ref05_State_rep) z9.1, .obj true 0 0 (mrep (z21α.1.1) (Rep.str) (Rep.int .i64)) z23.2.2.kinds, .obj true 0 0 (mrep (z21α.1.2) (T_store_place_rep) (T_api_Value_rep)) z23.2.2.set]) (sub_pick [6, 0, 1, 2, 3, 4, 5] rfl rfl) ?_
        refine o_ostore type27 foc_self guard_none (look_d rfl rfl (pr hp 0 rfl rfl)) (fun _ => rfl) (look_d rfl rfl (pr hp 1 rfl rfl)) (fun _ => rfl) ?_
        refine o_weak (H' := [.gone, .gone, .obj true z4 z5 (.dat (T_store_Store_repo z21α.1.1 z21α.1.2)) z23.2.2, .obj true z13 0 (.dat T_ref05_State_rep) z9.1, .obj true 0 0 (mrep (z21α.1.1) (Rep.str) (Rep.int .i64)) z23.2.2.kinds, .obj true 0 0 (mrep (z21α.1.2) (T_store_place_rep) (T_api_Value_rep)) z23.2.2.set, .obj true (z21α.2) 0 (.dat T_ref05_State_rep) z23.1]) (sub_pick [1, 2, 3, 4, 5, 6, 0] rfl rfl) ?_
        refine h_none (n := 81) (d := 90) rfl rfl ?_
        apply h_endA (α := z21α) (z21α.1, z21α.2)
        · exact (.same (.same (.same (.same (.same (.same (.same (.same (.same (.same (.same .nil)))))))))))
        · exact rfl
        · exact rfl
        · exact rfl
        · exact hB (z21α.1, z21α.2) (fun k => S k || Nat.beq k 9) true true true (or_t e4) (or_t e8) (or_i rfl)
      · intro z21α S hc hk hp
        have e4 : S 4 = true := (pr hp 6 rfl rfl)
        have e8 : S 8 = true := (pr hp 10 rfl rfl)
        have e9 : S 9 = true := (pr hp 1 rfl rfl)
        refine eq_H (H' := [.gone, .gone, .obj true z4 z5 (.dat (T_store_Store_repo z21α.1.1 z21α.1.2)) z23.2.2, .obj true z13 0 (.dat T_ref05_State_rep) z9.1, .obj true 0 0 (mrep (z21α.1.1) (Rep.str) (Rep.int .i64)) z23.2.2.kinds, .obj true 0 0 (mrep (z21α.1.2) (T_store_place_rep) (T_api_Value_rep)) z23.2.2.set, .obj true (z21α.2) 0 (.dat T_ref05_State_rep) z23.1]) (by first | exact hB z21α S true true true e4 e8 e9 | (have q := hB z21α S true true true e4 e8 e9; simp only [cond_true, cond_false] at q; exact q)) ?_
        refine o_assign rfl rfl guard_none (look_d rfl rfl (pr hp 0 rfl rfl)) (fun _ => rfl) ?_
        apply h_endA (α := z21α) (z21α.1, z21α.2)
        · exact (.same (.same (.same (.same (.same (.same (.same (.same (.same (.same (.same .nil)))))))))))
        · exact rfl
        · exact rfl
        · exact rfl
        · exact hB (z21α.1, z21α.2) (fun k => S k || Nat.beq k 10) true true true (or_t e4) (or_t e8) (or_t e9)
      refine den_weak (H' := [.obj true z4 z5 (.dat (T_store_Store_repo z21α.1.1 z21α.1.2)) z23.2.2, .obj true z13 0 (.dat T_ref05_State_rep) z9.1, .obj true 0 0 (mrep z21α.1.1 (Rep.str) (Rep.int .i64)) z23.2.2.kinds, .obj true 0 0 (mrep z21α.1.2 (T_store_place_rep) (T_api_Value_rep)) z23.2.2.set, .obj true z21α.2 0 (.dat T_ref05_State_rep) z23.1]) (sub_pick [2, 3, 4, 5, 6] rfl rfl) ?_
      refine den_seq ?_
      refine den_open (fun z27 h_z27 => ?_)
      refine den_open (fun z28 h_z28 => ?_)
      have hB : ∀ (z26α : Nat) (S : Nat → Bool) (b8 b9 : Bool), S 8 = b8 → S 9 = b9 → (([.obj true z4 z5 (.dat (T_store_Store_repo z21α.1.1 z21α.1.2)) z23.2.2, .obj true z13 0 (.dat T_ref05_State_rep) z9.1, .obj true 0 0 (mrep z21α.1.1 (Rep.str) (Rep.int .i64)) z23.2.2.kinds, .obj true 0 0 (mrep z21α.1.2 (T_store_place_rep) (T_api_Value_rep)) z23.2.2.set, .obj true z21α.2 0 (.dat T_ref05_State_rep) z23.1, (cond (S 9) (.obj true (z26α) 0 (.dat T_ref05_State_rep) z28.1) ((cond (S 8) (.obj true (z26α) 0 (.dat T_ref05_State_rep) T_ref05_State_zero) (.gone))))] : List Go.Eng.Item)) = ([.obj true z4 z5 (.dat (T_store_Store_repo z21α.1.1 z21α.1.2)) z23.2.2, .obj true z13 0 (.dat T_ref05_State_rep) z9.1, .obj true 0 0 (mrep z21α.1.1 (Rep.str) (Rep.int .i64)) z23.2.2.kinds, .obj true 0 0 (mrep z21α.1.2 (T_store_place_rep) (T_api_Value_rep)) z23.2.2.set, .obj true z21α.2 0 (.dat T_ref05_State_rep) z23.1, (cond b9 (.obj true (z26α) 0 (.dat T_ref05_State_rep) z28.1) ((cond b8 (.obj true (z26α) 0 (.dat T_ref05_State_rep) T_ref05_State_zero) (.gone))))] : List Go.Eng.Item) := fun z26α S b8 b9 h8 h9 => by subst h8; subst h9; rfl
      refine den_weak sub_gone ?_
      refine den_weak (sub_pick (H' := [.obj true z4 z5 (.dat (T_store_Store_repo z21α.1.1 z21α.1.2)) z23.2.2, .obj true z13 0 (.dat T_ref05_State_rep) z9.1, .obj true 0 0 (mrep z21α.1.1 (Rep.str) (Rep.int .i64)) z23.2.2.kinds, .obj true 0 0 (mrep z21α.1.2 (T_store_place_rep) (T_api_Value_rep)) z23.2.2.set, .obj true z21α.2 0 (.dat T_ref05_State_rep) z23.1, .gone]) [1, 2, 3, 4, 5, 0] rfl rfl) ?_
      refine den_drawA (A := Nat) (H' := fun z26α => [.obj true z4 z5 (.dat (T_store_Store_repo z21α.1.1 z21α.1.2)) z23.2.2, .obj true z13 0 (.dat T_ref05_State_rep) z9.1, .obj true 0 0 (mrep z21α.1.1 (Rep.str) (Rep.int .i64)) z23.2.2.kinds, .obj true 0 0 (mrep z21α.1.2 (T_store_place_rep) (T_api_Value_rep)) z23.2.2.set, .obj true z21α.2 0 (.dat T_ref05_State_rep) z23.1, .obj true (z26α) 0 (.dat T_ref05_State_rep) z28.1]) (fun z26α => [(45, ⟨Rep.nilp, (), true⟩), (46, ⟨T_ref05_State_rep, z9.1, true⟩), (47, ⟨(T_law05_Op_rep).slice, c_3, true⟩), (48, ⟨(T_law05_Op_rep).slice, z27, true⟩), (49, ⟨Rep.pair (T_ref05_State_rep) (Rep.bool), z28, true⟩), (44, ⟨Rep.pair (T_ref05_State_rep) (Rep.bool), z28, true⟩), (50, ⟨T_ref05_State_rep, z28.1, true⟩), (51, ⟨Rep.bool, z28.2, true⟩), (15, ⟨Rep.addr, (z26α, 0), true⟩), (90, ⟨.any, (), false⟩), (16, ⟨Rep.bool, z28.2, true⟩)]) (fun z26α S => [.obj true z4 z5 (.dat (T_store_Store_repo z21α.1.1 z21α.1.2)) z23.2.2, .obj true z13 0 (.dat T_ref05_State_rep) z9.1, .obj true 0 0 (mrep z21α.1.1 (Rep.str) (Rep.int .i64)) z23.2.2.kinds, .obj true 0 0 (mrep z21α.1.2 (T_store_place_rep) (T_api_Value_rep)) z23.2.2.set, .obj true z21α.2 0 (.dat T_ref05_State_rep) z23.1, (cond (S 9) (.obj true (z26α) 0 (.dat T_ref05_State_rep) z28.1) ((cond (S 8) (.obj true (z26α) 0 (.dat T_ref05_State_rep) T_ref05_State_zero) (.gone))))]) 0 mixed (fun _ => rfl) rfl rfl (fun z26α S hS => hB z26α S true true (hS 8 (by decide)) (hS 9 (by decide))) ⟨?_, ?_, ?_, ?_, ?_, ?_, ?_, ?_, ?_, ?_, ?_, trivial⟩ (fun z26α => ?_)
      · intro z26α S hc hk hp
        have e9 : S 9 = false := (not_yet (j := 9) (q := 3) hc hk rfl rfl rfl rfl)
        refine eq_H (H' := [.obj true z4 z5 (.dat (T_store_Store_repo z21α.1.1 z21α.1.2)) z23.2.2, .obj true z13 0 (.dat T_ref05_State_rep) z9.1, .obj true 0 0 (mrep z21α.1.1 (Rep.str) (Rep.int .i64)) z23.2.2.kinds, .obj true 0 0 (mrep z21α.1.2 (T_store_place_rep) (T_api_Value_rep)) z23.2.2.set, .obj true z21α.2 0 (.dat T_ref05_State_rep) z23.1, (cond (S 8) (.obj true (z26α) 0 (.dat T_ref05_State_rep) T_ref05_State_zero) (.gone))]) (by first | exact hB z26α S (S 8) false rfl e9 | (have q := hB z26α S (S 8) false rfl e9; simp only [cond_true, cond_false] at q; exact q)) ?_
        refine o_move rfl rfl guard_none (look_o rfl rfl) (fun _ => rfl) ?_
        apply h_endA (α := z26α) z26α
        · exact (.same (.same (.same (.same (.same (.same (.same (.same (.same (.same (.same .nil)))))))))))
        · exact rfl
        · exact rfl
        · exact rfl
        · exact hB z26α (fun k => S k || Nat.beq k 0) (S 8) false (or_ne rfl) (or_f e9 rfl)
      · intro z26α S hc hk hp
        have e9 : S 9 = false := (not_yet (j := 9) (q := 4) hc hk rfl rfl rfl rfl)
        refine eq_H (H' := [.obj true z4 z5 (.dat (T_store_Store_repo z21α.1.1 z21α.1.2)) z23.2.2, .obj true z13 0 (.dat T_ref05_State_rep) z9.1, .obj true 0 0 (mrep z21α.1.1 (Rep.str) (Rep.int .i64)) z23.2.2.kinds, .obj true 0 0 (mrep z21α.1.2 (T_store_place_rep) (T_api_Value_rep)) z23.2.2.set, .obj true z21α.2 0 (.dat T_ref05_State_rep) z23.1, (cond (S 8) (.obj true (z26α) 0 (.dat T_ref05_State_rep) T_ref05_State_zero) (.gone))]) (by first | exact hB z26α S (S 8) false rfl e9 | (have q := hB z26α S (S 8) false rfl e9; simp only [cond_true, cond_false] at q; exact q)) ?_
        refine o_oloadi 1 rfl type27 foc_self rfl guard_none (look_o rfl rfl) (fun _ => rfl) ?_
        apply h_endA (α := z26α) z26α
        · exact (.same (.same (.same (.same (.same (.same (.same (.same (.same (.same (.same .nil)))))))))))
        · exact rfl
        · exact rfl
        · exact rfl
        · exact hB z26α (fun k => S k || Nat.beq k 1) (S 8) false (or_ne rfl) (or_f e9 rfl)
      · intro z26α S hc hk hp
        have e9 : S 9 = false := (not_yet (j := 9) (q := 5) hc hk rfl rfl rfl rfl)
        refine eq_H (H' := [.obj true z4 z5 (.dat (T_store_Store_repo z21α.1.1 z21α.1.2)) z23.2.2, .obj true z13 0 (.dat T_ref05_State_rep) z9.1, .obj true 0 0 (mrep z21α.1.1 (Rep.str) (Rep.int .i64)) z23.2.2.kinds, .obj true 0 0 (mrep z21α.1.2 (T_store_place_rep) (T_api_Value_rep)) z23.2.2.set, .obj true z21α.2 0 (.dat T_ref05_State_rep) z23.1, (cond (S 8) (.obj true (z26α) 0 (.dat T_ref05_State_rep) T_ref05_State_zero) (.gone))]) (by first | exact hB z26α S (S 8) false rfl e9 | (have q := hB z26α S (S 8) false rfl e9; simp only [cond_true, cond_false] at q; exact q)) ?_
        refine o_move rfl rfl guard_none (look_o rfl rfl) (fun _ => rfl) ?_
        apply h_endA (α := z26α) z26α
        · exact (.same (.same (.same (.same (.same (.same (.same (.same (.same (.same (.same .nil)))))))))))
        · exact rfl
        · exact rfl
        · exact rfl
        · exact hB z26α (fun k => S k || Nat.beq k 2) (S 8) false (or_ne rfl) (or_f e9 rfl)
      · intro z26α S hc hk hp
        have e9 : S 9 = false := (not_yet (j := 9) (q := 6) hc hk rfl rfl rfl rfl)
        refine eq_H (H' := [.obj true z4 z5 (.dat (T_store_Store_repo z21α.1.1 z21α.1.2)) z23.2.2, .obj true z13 0 (.dat T_ref05_State_rep) z9.1, .obj true 0 0 (mrep z21α.1.1 (Rep.str) (Rep.int .i64)) z23.2.2.kinds, .obj true 0 0 (mrep z21α.1.2 (T_store_place_rep) (T_api_Value_rep)) z23.2.2.set, .obj true z21α.2 0 (.dat T_ref05_State_rep) z23.1, (cond (S 8) (.obj true (z26α) 0 (.dat T_ref05_State_rep) T_ref05_State_zero) (.gone))]) (by first | exact hB z26α S (S 8) false rfl e9 | (have q := hB z26α S (S 8) false rfl e9; simp only [cond_true, cond_false] at q; exact q)) ?_
        refine o_from (bind_eqO h_z27) ?_
        refine o_call rfl rfl rfl callable18 (looks_cons (look_d rfl rfl (pr hp 0 rfl rfl)) (fun _ => rfl) (looks_nil)) (law05_few_ok _) (o_eqO ?_)
        apply h_endA (α := z26α) z26α
        · exact (.same (.same (.same (.same (.same (.same (.same (.same (.same (.same (.same .nil)))))))))))
        · exact rfl
        · exact rfl
        · exact rfl
        · exact hB z26α (fun k => S k || Nat.beq k 3) (S 8) false (or_ne rfl) (or_f e9 rfl)
      · intro z26α S hc hk hp
        have e9 : S 9 = false := (not_yet (j := 9) (q := 2) hc hk rfl rfl rfl rfl)
        refine eq_H (H' := [.obj true z4 z5 (.dat (T_store_Store_repo z21α.1.1 z21α.1.2)) z23.2.2, .obj true z13 0 (.dat T_ref05_State_rep) z9.1, .obj true 0 0 (mrep z21α.1.1 (Rep.str) (Rep.int .i64)) z23.2.2.kinds, .obj true 0 0 (mrep z21α.1.2 (T_store_place_rep) (T_api_Value_rep)) z23.2.2.set, .obj true z21α.2 0 (.dat T_ref05_State_rep) z23.1, (cond (S 8) (.obj true (z26α) 0 (.dat T_ref05_State_rep) T_ref05_State_zero) (.gone))]) (by first | exact hB z26α S (S 8) false rfl e9 | (have q := hB z26α S (S 8) false rfl e9; simp only [cond_true, cond_false] at q; exact q)) ?_
        refine o_from (bind_eqO h_z28) ?_
        refine o_call rfl rfl rfl callable16 (looks_cons (look_d rfl rfl (pr hp 0 rfl rfl)) (fun _ => rfl) (looks_cons (look_d rfl rfl (pr hp 1 rfl rfl)) (fun _ => rfl) (looks_cons (look_d rfl rfl (pr hp 2 rfl rfl)) (fun _ => rfl) (looks_nil)))) (law05_run_n0_ok _ _) (o_eqO ?_)
        apply h_endA (α := z26α) z26α
        · exact (.same (.same (.same (.same (.same (.same (.same (.same (.same (.same (.same .nil)))))))))))
        · exact rfl
        · exact rfl
        · exact rfl
        · exact hB z26α (fun k => S k || Nat.beq k 4) (S 8) false (or_ne rfl) (or_f e9 rfl)
      · intro z26α S hc hk hp
        have e9 : S 9 = false := (not_yet (j := 9) (q := 8) hc hk rfl rfl rfl rfl)
        refine eq_H (H' := [.obj true z4 z5 (.dat (T_store_Store_repo z21α.1.1 z21α.1.2)) z23.2.2, .obj true z13 0 (.dat T_ref05_State_rep) z9.1, .obj true 0 0 (mrep z21α.1.1 (Rep.str) (Rep.int .i64)) z23.2.2.kinds, .obj true 0 0 (mrep z21α.1.2 (T_store_place_rep) (T_api_Value_rep)) z23.2.2.set, .obj true z21α.2 0 (.dat T_ref05_State_rep) z23.1, (cond (S 8) (.obj true (z26α) 0 (.dat T_ref05_State_rep) T_ref05_State_zero) (.gone))]) (by first | exact hB z26α S (S 8) false rfl e9 | (have q := hB z26α S (S 8) false rfl e9; simp only [cond_true, cond_false] at q; exact q)) ?_
        refine o_move rfl rfl guard_none (look_d rfl rfl (pr hp 0 rfl rfl)) (fun _ => rfl) ?_
        apply h_endA (α := z26α) z26α
        · exact (.same (.same (.same (.same (.same (.same (.same (.same (.same (.same (.same .nil)))))))))))
        · exact rfl
        · exact rfl
        · exact rfl
        · exact hB z26α (fun k => S k || Nat.beq k 5) (S 8) false (or_ne rfl) (or_f e9 rfl)
      · intro z26α S hc hk hp
        have e9 : S 9 = false := (not_yet (j := 9) (q := 1) hc hk rfl rfl rfl rfl)
        refine eq_H (H' := [.obj true z4 z5 (.dat (T_store_Store_repo z21α.1.1 z21α.1.2)) z23.2.2, .obj true z13 0 (.dat T_ref05_State_rep) z9.1, .obj true 0 0 (mrep z21α.1.1 (Rep.str) (Rep.int .i64)) z23.2.2.kinds, .obj true 0 0 (mrep z21α.1.2 (T_store_place_rep) (T_api_Value_rep)) z23.2.2.set, .obj true z21α.2 0 (.dat T_ref05_State_rep) z23.1, (cond (S 8) (.obj true (z26α) 0 (.dat T_ref05_State_rep) T_ref05_State_zero) (.gone))]) (by first | exact hB z26α S (S 8) false rfl e9 | (have q := hB z26α S (S 8) false rfl e9; simp only [cond_true, cond_false] at q; exact q)) ?_
        refine o_fst rfl rfl guard_none (look_d rfl rfl (pr hp 0 rfl rfl)) (fun _ => rfl) ?_
        apply h_endA (α := z26α) z26α
        · exact (.same (.same (.same (.same (.same (.same (.same (.same (.same (.same (.same .nil)))))))))))
        · exact rfl
        · exact rfl
        · exact rfl
        · exact hB z26α (fun k => S k || Nat.beq k 6) (S 8) false (or_ne rfl) (or_f e9 rfl)
      · intro z26α S hc hk hp
        refine eq_H (H' := [.obj true z4 z5 (.dat (T_store_Store_repo z21α.1.1 z21α.1.2)) z23.2.2, .obj true z13 0 (.dat T_ref05_State_rep) z9.1, .obj true 0 0 (mrep z21α.1.1 (Rep.str) (Rep.int .i64)) z23.2.2.kinds, .obj true 0 0 (mrep z21α.1.2 (T_store_place_rep) (T_api_Value_rep)) z23.2.2.set, .obj true z21α.2 0 (.dat T_ref05_State_rep) z23.1, (cond (S 9) (.obj true (z26α) 0 (.dat T_ref05_State_rep) z28.1) ((cond (S 8) (.obj true (z26α) 0 (.dat T_ref05_State_rep) T_ref05_State_zero) (.gone))))]) (by first | exact hB z26α S (S 8) (S 9) rfl rfl | (have q := hB z26α S (S 8) (S 9) rfl rfl; simp only [cond_true, cond_false] at q; exact q)) ?_
        refine o_snd rfl rfl guard_none (look_d rfl rfl (pr hp 0 rfl rfl)) (fun _ => rfl) ?_
        apply h_endA (α := z26α) z26α
        · exact (.same (.same (.same (.same (.same (.same (.same (.same (.same (.same (.same .nil)))))))))))
        · exact rfl
        · exact rfl
        · exact rfl
        · exact hB z26α (fun k => S k || Nat.beq k 7) (S 8) (S 9) (or_ne rfl) (or_ne rfl)
      · intro z26α S hc hk hp
        have e9 : S 9 = false := (not_yet (j := 9) (q := 0) hc hk rfl rfl rfl rfl)
        refine eq_H (H' := [.obj true z4 z5 (.dat (T_store_Store_repo z21α.1.1 z21α.1.2)) z23.2.2, .obj true z13 0 (.dat T_ref05_State_rep) z9.1, .obj true 0 0 (mrep z21α.1.1 (Rep.str) (Rep.int .i64)) z23.2.2.kinds, .obj true 0 0 (mrep z21α.1.2 (T_store_place_rep) (T_api_Value_rep)) z23.2.2.set, .obj true z21α.2 0 (.dat T_ref05_State_rep) z23.1, .gone]) (by first | exact hB z26α S false false hk e9 | (have q := hB z26α S false false hk e9; simp only [cond_true, cond_false] at q; exact q)) ?_
        refine o_alloc zero27 rfl rfl (fun z29 => ?_)
        refine o_weak (H' := [.obj true z4 z5 (.dat (T_store_Store_repo z21α.1.1 z21α.1.2)) z23.2.2, .obj true z13 0 (.dat T_ref05_State_rep) z9.1, .obj true 0 0 (mrep z21α.1.1 (Rep.str) (Rep.int .i64)) z23.2.2.kinds, .obj true 0 0 (mrep z21α.1.2 (T_store_place_rep) (T_api_Value_rep)) z23.2.2.set, .obj true z21α.2 0 (.dat T_ref05_State_rep) z23.1, .obj true z29 0 (.dat T_ref05_State_rep) T_ref05_State_zero]) (sub_pick [1, 2, 3, 4, 5, 0] rfl rfl) ?_
        apply h_endA (α := z26α) z29
        · exact (.same (.same (.same (.same (.same (.same (.same (.same (.off hk (.same (.same .nil)))))))))))
        · exact rfl
        · exact rfl
        · exact rfl
        · exact hB z29 (fun k => S k || Nat.beq k 8) true false (or_i rfl) (or_f e9 rfl)
      · intro z26α S hc hk hp
        have e8 : S 8 = true := (pr hp 0 rfl rfl)
        refine eq_H (H' := [.obj true z4 z5 (.dat (T_store_Store_repo z21α.1.1 z21α.1.2)) z23.2.2, .obj true z13 0 (.dat T_ref05_State_rep) z9.1, .obj true 0 0 (mrep z21α.1.1 (Rep.str) (Rep.int .i64)) z23.2.2.kinds, .obj true 0 0 (mrep z21α.1.2 (T_store_place_rep) (T_api_Value_rep)) z23.2.2.set, .obj true z21α.2 0 (.dat T_ref05_State_rep) z23.1, .obj true (z26α) 0 (.dat T_ref05_State_rep) T_ref05_State_zero]) (by first | exact hB z26α S true false e8 hk | (have q := hB z26α S true false e8 hk; simp only [cond_true, cond_false] at q; exact q)) ?_
        refine o_weak (H' := [.obj true (z26α) 0 (.dat T_ref05_State_rep) T_ref05_State_zero, .obj true z4 z5 (.dat (T_store_Store_repo z21α.1.1 z21α.1.2)) z23.2.2, .obj true z13 0 (.dat T_ref05_State_rep) z9.1, .obj true 0 0 (mrep z21α.1.1 (Rep.str) (Rep.int .i64)) z23.2.2.kinds, .obj true 0 0 (mrep z21α.1.2 (T_store_place_rep) (T_api_Value_rep)) z23.2.2.set, .obj true z21α.2 0 (.dat T_ref05_State_rep) z23.1]) (sub_pick [5, 0, 1, 2, 3, 4] rfl rfl) ?_
        refine o_ostore type27 foc_self guard_none (look_d rfl rfl (pr hp 0 rfl rfl)) (fun _ => rfl) (look_d rfl rfl (pr hp 1 rfl rfl)) (fun _ => rfl) ?_
        refine o_weak (H' := [.obj true z4 z5 (.dat (T_store_Store_repo z21α.1.1 z21α.1.2)) z23.2.2, .obj true z13 0 (.dat T_ref05_State_rep) z9.1, .obj true 0 0 (mrep z21α.1.1 (Rep.str) (Rep.int .i64)) z23.2.2.kinds, .obj true 0 0 (mrep z21α.1.2 (T_store_place_rep) (T_api_Value_rep)) z23.2.2.set, .obj true z21α.2 0 (.dat T_ref05_State_rep) z23.1, .obj true (z26α) 0 (.dat T_ref05_State_rep) z28.1]) (sub_pick [1, 2, 3, 4, 5, 0] rfl rfl) ?_
        refine h_none (n := 81) (d := 90) rfl rfl ?_
        apply h_endA (α := z26α) z26α
        · exact (.same (.same (.same (.same (.same (.same (.same (.same (.same (.same (.same .nil)))))))))))
        · exact rfl
        · exact rfl
        · exact rfl
        · exact hB z26α (fun k => S k || Nat.beq k 9) true true (or_t e8) (or_i rfl)
      · intro z26α S hc hk hp
        have e8 : S 8 = true := (pr hp 10 rfl rfl)
        have e9 : S 9 = true := (pr hp 1 rfl rfl)
        refine eq_H (H' := [.obj true z4 z5 (.dat (T_store_Store_repo z21α.1.1 z21α.1.2)) z23.2.2, .obj true z13 0 (.dat T_ref05_State_rep) z9.1, .obj true 0 0 (mrep z21α.1.1 (Rep.str) (Rep.int .i64)) z23.2.2.kinds, .obj true 0 0 (mrep z21α.1.2 (T_store_place_rep) (T_api_Value_rep)) z23.2.2.set, .obj true z21α.2 0 (.dat T_ref05_State_rep) z23.1, .obj true (z26α) 0 (.dat T_ref05_State_rep) z28.1]) (by first | exact hB z26α S true true e8 e9 | (have q := hB z26α S true true e8 e9; simp only [cond_true, cond_false] at q; exact q)) ?_
        refine o_assign rfl rfl guard_none (look_d rfl rfl (pr hp 0 rfl rfl)) (fun _ => rfl) ?_
        apply h_endA (α := z26α) z26α
        · exact (.same (.same (.same (.same (.same (.same (.same (.same (.same (.same (.same .nil)))))))))))
        · exact rfl
        · exact rfl
        · exact rfl
        · exact hB z26α (fun k => S k || Nat.beq k 10) true true (or_t e8) (or_t e9)
      refine den_seq ?_
      refine den_open (fun z31 h_z31 => ?_)
      refine den_open (fun z32 h_z32 => ?_)
      have hB : ∀ (z30α : ((Value × Value) × Nat)) (S : Nat → Bool) (b4 b8 b9 : Bool), S 4 = b4 → S 8 = b8 → S 9 = b9 → (([(cond (S 4) (.obj true z4 z5 (.dat (T_store_Store_repo z30α.1.1 z30α.1.2)) z32.2.2) (.obj true z4 z5 (.dat (T_store_Store_repo z21α.1.1 z21α.1.2)) z23.2.2)), .obj true z13 0 (.dat T_ref05_State_rep) z9.1, (cond (S 4) (.gone) (.obj true 0 0 (mrep z21α.1.1 (Rep.str) (Rep.int .i64)) z23.2.2.kinds)), (cond (S 4) (.gone) (.obj true 0 0 (mrep z21α.1.2 (T_store_place_rep) (T_api_Value_rep)) z23.2.2.set)), .obj true z21α.2 0 (.dat T_ref05_State_rep) z23.1, .obj true z26α 0 (.dat T_ref05_State_rep) z28.1, (cond (S 4) (.obj true 0 0 (mrep (z30α.1.1) (Rep.str) (Rep.int .i64)) z32.2.2.kinds) (.gone)), (cond (S 4) (.obj true 0 0 (mrep (z30α.1.2) (T_store_place_rep) (T_api_Value_rep)) z32.2.2.set) (.gone)), (cond (S 9) (.obj true (z30α.2) 0 (.dat T_ref05_State_rep) z32.1) ((cond (S 8) (.obj true (z30α.2) 0 (.dat T_ref05_State_rep) T_ref05_State_zero) (.gone))))] : List Go.Eng.Item)) = ([(cond b4 (.obj true z4 z5 (.dat (T_store_Store_repo z30α.1.1 z30α.1.2)) z32.2.2) (.obj true z4 z5 (.dat (T_store_Store_repo z21α.1.1 z21α.1.2)) z23.2.2)), .obj true z13 0 (.dat T_ref05_State_rep) z9.1, (cond b4 (.gone) (.obj true 0 0 (mrep z21α.1.1 (Rep.str) (Rep.int .i64)) z23.2.2.kinds)), (cond b4 (.gone) (.obj true 0 0 (mrep z21α.1.2 (T_store_place_rep) (T_api_Value_rep)) z23.2.2.set)), .obj true z21α.2 0 (.dat T_ref05_State_rep) z23.1, .obj true z26α 0 (.dat T_ref05_State_rep) z28.1, (cond b4 (.obj true 0 0 (mrep (z30α.1.1) (Rep.str) (Rep.int .i64)) z32.2.2.kinds) (.gone)), (cond b4 (.obj true 0 0 (mrep (z30α.1.2) (T_store_place_rep) (T_api_Value_rep)) z32.2.2.set) (.gone)), (cond b9 (.obj true (z30α.2) 0 (.dat T_ref05_State_rep) z32.1) ((cond b8 (.obj true (z30α.2) 0 (.dat T_ref05_State_rep) T_ref05_State_zero) (.gone))))] : List Go.Eng.Item) := fun z30α S b4 b8 b9 h4 h8 h9 => by subst h4; subst h8; subst h9; rfl
      refine den_weak sub_gone ?_
      refine den_weak sub_gone ?_
      refine den_weak sub_gone ?_
      refine den_weak (sub_pick (H' := [.obj true z4 z5 (.dat (T_store_Store_repo z21α.1.1 z21α.1.2)) z23.2.2, .obj true z13 0 (.dat T_ref05_State_rep) z9.1, .obj true 0 0 (mrep z21α.1.1 (Rep.str) (Rep.int .i64)) z23.2.2.kinds, .obj true 0 0 (mrep z21α.1.2 (T_store_place_rep) (T_api_Value_rep)) z23.2.2.set, .obj true z21α.2 0 (.dat T_ref05_State_rep) z23.1, .obj true z26α 0 (.dat T_ref05_State_rep) z28.1, .gone, .gone, .gone]) [3, 4, 5, 6, 7, 8, 0, 1, 2] rfl rfl) ?_
      refine den_drawA (A := ((Value × Value) × Nat)) (H' := fun z30α => [.obj true z4 z5 (.dat (T_store_Store_repo z30α.1.1 z30α.1.2)) z32.2.2, .obj true z13 0 (.dat T_ref05_State_rep) z9.1, .gone, .gone, .obj true z21α.2 0 (.dat T_ref05_State_rep) z23.1, .obj true z26α 0 (.dat T_ref05_State_rep) z28.1, .obj true 0 0 (mrep (z30α.1.1) (Rep.str) (Rep.int .i64)) z32.2.2.kinds, .obj true 0 0 (mrep (z30α.1.2) (T_store_place_rep) (T_api_Value_rep)) z32.2.2.set, .obj true (z30α.2) 0 (.dat T_ref05_State_rep) z32.1]) (fun z30α => [(53, ⟨Rep.addr, (z4, z5), true⟩), (54, ⟨T_ref05_State_rep, z23.1, true⟩), (55, ⟨(T_law05_Op_rep).slice, c_3, true⟩), (56, ⟨(T_law05_Op_rep).slice, z31, true⟩), (57, ⟨Rep.pair (T_ref05_State_rep) (Rep.bool), (z32.1, z32.2.1), true⟩), (52, ⟨Rep.pair (T_ref05_State_rep) (Rep.bool), (z32.1, z32.2.1), true⟩), (58, ⟨T_ref05_State_rep, z32.1, true⟩), (59, ⟨Rep.bool, z32.2.1, true⟩), (17, ⟨Rep.addr, (z30α.2, 0), true⟩), (90, ⟨.any, (), false⟩), (18, ⟨Rep.bool, z32.2.1, true⟩)]) (fun z30α S => [(cond (S 4) (.obj true z4 z5 (.dat (T_store_Store_repo z30α.1.1 z30α.1.2)) z32.2.2) (.obj true z4 z5 (.dat (T_store_Store_repo z21α.1.1 z21α.1.2)) z23.2.2)), .obj true z13 0 (.dat T_ref05_State_rep) z9.1, (cond (S 4) (.gone) (.obj true 0 0 (mrep z21α.1.1 (Rep.str) (Rep.int .i64)) z23.2.2.kinds)), (cond (S 4) (.gone) (.obj true 0 0 (mrep z21α.1.2 (T_store_place_rep) (T_api_Value_rep)) z23.2.2.set)), .obj true z21α.2 0 (.dat T_ref05_State_rep) z23.1, .obj true z26α 0 (.dat T_ref05_State_rep) z28.1, (cond (S 4) (.obj true 0 0 (mrep (z30α.1.1) (Rep.str) (Rep.int .i64)) z32.2.2.kinds) (.gone)), (cond (S 4) (.obj true 0 0 (mrep (z30α.1.2) (T_store_place_rep) (T_api_Value_rep)) z32.2.2.set) (.gone)), (cond (S 9) (.obj true (z30α.2) 0 (.dat T_ref05_State_rep) z32.1) ((cond (S 8) (.obj true (z30α.2) 0 (.dat T_ref05_State_rep) T_ref05_State_zero) (.gone))))]) (((Value.slice none 0 0), (Value.slice none 0 0)), 0) mixed (fun _ => rfl) rfl rfl (fun z30α S hS => hB z30α S true true true (hS 4 (by decide)) (hS 8 (by decide)) (hS 9 (by decide))) ⟨?_, ?_, ?_, ?_, ?_, ?_, ?_, ?_, ?_, ?_, ?_, trivial⟩ (fun z30α => ?_)
      · intro z30α S hc hk hp
        have e4 : S 4 = false := (not_yet (j := 4) (q := 0) hc hk rfl rfl rfl rfl)
        have e9 : S 9 = false := (not_yet (j := 9) (q := 3) hc hk rfl rfl rfl rfl)
        refine eq_H (H' := [.obj true z4 z5 (.dat (T_store_Store_repo z21α.1.1 z21α.1.2)) z23.2.2, .obj true z13 0 (.dat T_ref05_State_rep) z9.1, .obj true 0 0 (mrep z21α.1.1 (Rep.str) (Rep.int .i64)) z23.2.2.kinds, .obj true 0 0 (mrep z21α.1.2 (T_store_place_rep) (T_api_Value_rep)) z23.2.2.set, .obj true z21α.2 0 (.dat T_ref05_State_rep) z23.1, .obj true z26α 0 (.dat T_ref05_State_rep) z28.1, .gone, .gone, (cond (S 8) (.obj true (z30α.2) 0 (.dat T_ref05_State_rep) T_ref05_State_zero) (.gone))]) (by first | exact hB z30α S false (S 8) false e4 rfl e9 | (have q := hB z30α S false (S 8) false e4 rfl e9; simp only [cond_true, cond_false] at q; exact q)) ?_
        refine o_move rfl rfl guard_none (look_o rfl rfl) (fun _ => rfl) ?_
        apply h_endA (α := z30α) (z30α.1, z30α.2)
        · exact (.same (.same (.same (.same (.same (.same (.same (.same (.same (.same (.same .nil)))))))))))
        · exact rfl
        · exact rfl
        · exact rfl
        · exact hB (z30α.1, z30α.2) (fun k => S k || Nat.beq k 0) false (S 8) false (or_f e4 rfl) (or_ne rfl) (or_f e9 rfl)
      · intro z30α S hc hk hp
        have e4 : S 4 = false := (not_yet (j := 4) (q := 1) hc hk rfl rfl rfl rfl)
        have e9 : S 9 = false := (not_yet (j := 9) (q := 4) hc hk rfl rfl rfl rfl)
        refine eq_H (H' := [.obj true z4 z5 (.dat (T_store_Store_repo z21α.1.1 z21α.1.2)) z23.2.2, .obj true z13 0 (.dat T_ref05_State_rep) z9.1, .obj true 0 0 (mrep z21α.1.1 (Rep.str) (Rep.int .i64)) z23.2.2.kinds, .obj true 0 0 (mrep z21α.1.2 (T_store_place_rep) (T_api_Value_rep)) z23.2.2.set, .obj true z21α.2 0 (.dat T_ref05_State_rep) z23.1, .obj true z26α 0 (.dat T_ref05_State_rep) z28.1, .gone, .gone, (cond (S 8) (.obj true (z30α.2) 0 (.dat T_ref05_State_rep) T_ref05_State_zero) (.gone))]) (by first | exact hB z30α S false (S 8) false e4 rfl e9 | (have q := hB z30α S false (S 8) false e4 rfl e9; simp only [cond_true, cond_false] at q; exact q)) ?_
        refine o_oloadi 4 rfl type27 foc_self rfl guard_none (look_o rfl rfl) (fun _ => rfl) ?_
        apply h_endA (α := z30α) (z30α.1, z30α.2)
        · exact (.same (.same (.same (.same (.same (.same (.same (.same (.same (.same (.same .nil)))))))))))
        · exact rfl
        · exact rfl
        · exact rfl
        · exact hB (z30α.1, z30α.2) (fun k => S k || Nat.beq k 1) false (S 8) false (or_f e4 rfl) (or_ne rfl) (or_f e9 rfl)
      · intro z30α S hc hk hp
        have e4 : S 4 = false := (not_yet (j := 4) (q := 2) hc (not_yet (j := 3) (q := 0) hc hk rfl rfl rfl rfl) rfl rfl rfl rfl)
        have e9 : S 9 = false := (not_yet (j := 9) (q := 5) hc hk rfl rfl rfl rfl)
        refine eq_H (H' := [.obj true z4 z5 (.dat (T_store_Store_repo z21α.1.1 z21α.1.2)) z23.2.2, .obj true z13 0 (.dat T_ref05_State_rep) z9.1, .obj true 0 0 (mrep z21α.1.1 (Rep.str) (Rep.int .i64)) z23.2.2.kinds, .obj true 0 0 (mrep z21α.1.2 (T_store_place_rep) (T_api_Value_rep)) z23.2.2.set, .obj true z21α.2 0 (.dat T_ref05_State_rep) z23.1, .obj true z26α 0 (.dat T_ref05_State_rep) z28.1, .gone, .gone, (cond (S 8) (.obj true (z30α.2) 0 (.dat T_ref05_State_rep) T_ref05_State_zero) (.gone))]) (by first | exact hB z30α S false (S 8) false e4 rfl e9 | (have q := hB z30α S false (S 8) false e4 rfl e9; simp only [cond_true, cond_false] at q; exact q)) ?_
        refine o_move rfl rfl guard_none (look_o rfl rfl) (fun _ => rfl) ?_
        apply h_endA (α := z30α) (z30α.1, z30α.2)
        · exact (.same (.same (.same (.same (.same (.same (.same (.same (.same (.same (.same .nil)))))))))))
        · exact rfl
        · exact rfl
        · exact rfl
        · exact hB (z30α.1, z30α.2) (fun k => S k || Nat.beq k 2) false (S 8) false (or_f e4 rfl) (or_ne rfl) (or_f e9 rfl)
      · intro z30α S hc hk hp
        have e4 : S 4 = false := (not_yet (j := 4) (q := 2) hc hk rfl rfl rfl rfl)
        have e9 : S 9 = false := (not_yet (j := 9) (q := 6) hc hk rfl rfl rfl rfl)
        refine eq_H (H' := [.obj true z4 z5 (.dat (T_store_Store_repo z21α.1.1 z21α.1.2)) z23.2.2, .obj true z13 0 (.dat T_ref05_State_rep) z9.1, .obj true 0 0 (mrep z21α.1.1 (Rep.str) (Rep.int .i64)) z23.2.2.kinds, .obj true 0 0 (mrep z21α.1.2 (T_store_place_rep) (T_api_Value_rep)) z23.2.2.set, .obj true z21α.2 0 (.dat T_ref05_State_rep) z23.1, .obj true z26α 0 (.dat T_ref05_State_rep) z28.1, .gone, .gone, (cond (S 8) (.obj true (z30α.2) 0 (.dat T_ref05_State_rep) T_ref05_State_zero) (.gone))]) (by first | exact hB z30α S false (S 8) false e4 rfl e9 | (have q := hB z30α S false (S 8) false e4 rfl e9; simp only [cond_true, cond_false] at q; exact q)) ?_
        refine o_from (bind_eqO h_z31) ?_
        refine o_call rfl rfl rfl callable18 (looks_cons (look_d rfl rfl (pr hp 0 rfl rfl)) (fun _ => rfl) (looks_nil)) (law05_few_ok _) (o_eqO ?_)
        apply h_endA (α := z30α) (z30α.1, z30α.2)
        · exact (.same (.same (.same (.same (.same (.same (.same (.same (.same (.same (.same .nil)))))))))))
        · exact rfl
        · exact rfl
        · exact rfl
        · exact hB (z30α.1, z30α.2) (fun k => S k || Nat.beq k 3) false (S 8) false (or_f e4 rfl) (or_ne rfl) (or_f e9 rfl)
      · intro z30α S hc hk hp
        have e9 : S 9 = false := (not_yet (j := 9) (q := 2) hc hk rfl rfl rfl rfl)
        refine eq_H (H' := [.obj true z4 z5 (.dat (T_store_Store_repo z21α.1.1 z21α.1.2)) z23.2.2, .obj true z13 0 (.dat T_ref05_State_rep) z9.1, .obj true 0 0 (mrep z21α.1.1 (Rep.str) (Rep.int .i64)) z23.2.2.kinds, .obj true 0 0 (mrep z21α.1.2 (T_store_place_rep) (T_api_Value_rep)) z23.2.2.set, .obj true z21α.2 0 (.dat T_ref05_State_rep) z23.1, .obj true z26α 0 (.dat T_ref05_State_rep) z28.1, .gone, .gone, (cond (S 8) (.obj true (z30α.2) 0 (.dat T_ref05_State_rep) T_ref05_State_zero) (.gone))]) (by first | exact hB z30α S false (S 8) false hk rfl e9 | (have q := hB z30α S false (S 8) false hk rfl e9; simp only [cond_true, cond_false] at q; exact q)) ?_
        refine o_from (bind_eqO h_z32) ?_
        refine o_weak (H' := [.obj true 0 0 (mrep z21α.1.1 (Rep.str) (Rep.int .i64)) z23.2.2.kinds, .obj true 0 0 (mrep z21α.1.2 (T_store_place_rep) (T_api_Value_rep)) z23.2.2.set, .obj true z4 z5 (.dat (T_store_Store_repo z21α.1.1 z21α.1.2)) z23.2.2] ++ ([] ++ [.obj true z13 0 (.dat T_ref05_State_rep) z9.1, .obj true z21α.2 0 (.dat T_ref05_State_rep) z23.1, .obj true z26α 0 (.dat T_ref05_State_rep) z28.1, .gone, .gone, (cond (S 8) (.obj true (z30α.2) 0 (.dat T_ref05_State_rep) T_ref05_State_zero) (.gone))])) (sub_pick [2, 3, 0, 1, 4, 5, 6, 7, 8] rfl rfl) ?_
        refine o_callU rfl rfl rfl rfl rfl callable16 (looks_cons (look_d rfl rfl (pr hp 0 rfl rfl)) (fun _ => rfl) (looks_cons (look_d rfl rfl (pr hp 1 rfl rfl)) (fun _ => rfl) (looks_cons (look_d rfl rfl (pr hp 2 rfl rfl)) (fun _ => rfl) (looks_nil)))) .nil (law05_run_ok _ _ _ _ z23.2.2 z23.1 z31) (fun _ _ => (wr_c (wr_c (wr_c wr_n)))) (fun z33α => o_eqOH ?_)
        refine o_weak (H' := [.obj true 0 0 (mrep z33α.1 (Rep.str) (Rep.int .i64)) z32.2.2.kinds, .obj true 0 0 (mrep z33α.2 (T_store_place_rep) (T_api_Value_rep)) z32.2.2.set, .obj true z4 z5 (.dat (T_store_Store_repo z33α.1 z33α.2)) z32.2.2, .obj true z13 0 (.dat T_ref05_State_rep) z9.1, .obj true z21α.2 0 (.dat T_ref05_State_rep) z23.1, .obj true z26α 0 (.dat T_ref05_State_rep) z28.1, .gone, .gone, (cond (S 8) (.obj true (z30α.2) 0 (.dat T_ref05_State_rep) T_ref05_State_zero) (.gone))]) (sub_pick [0, 1, 2, 3, 4, 5, 6, 7, 8] rfl rfl) ?_
        refine o_weak sub_gone ?_
        refine o_weak sub_gone ?_
        refine o_weak (H' := [.obj true z4 z5 (.dat (T_store_Store_repo z33α.1 z33α.2)) z32.2.2, .obj true z13 0 (.dat T_ref05_State_rep) z9.1, .gone, .gone, .obj true z21α.2 0 (.dat T_ref05_State_rep) z23.1, .obj true z26α 0 (.dat T_ref05_State_rep) z28.1, .obj true 0 0 (mrep z33α.1 (Rep.str) (Rep.int .i64)) z32.2.2.kinds, .obj true 0 0 (mrep z33α.2 (T_store_place_rep) (T_api_Value_rep)) z32.2.2.set, (cond (S 8) (.obj true (z30α.2) 0 (.dat T_ref05_State_rep) T_ref05_State_zero) (.gone))]) (sub_pick [4, 5, 1, 0, 6, 7, 2, 3, 10] rfl rfl) ?_
        apply h_endA (α := z30α) (z33α, z30α.2)
        · exact (.same (.same (.same (.same (.same (.same (.same (.same (.same (.same (.same .nil)))))))))))
        · exact rfl
        · exact rfl
        · exact rfl
        · exact hB (z33α, z30α.2) (fun k => S k || Nat.beq k 4) true (S 8) false (or_i rfl) (or_ne rfl) (or_f e9 rfl)
      · intro z30α S hc hk hp
        have e4 : S 4 = true := (pr hp 0 rfl rfl)
        have e9 : S 9 = false := (not_yet (j := 9) (q := 8) hc hk rfl rfl rfl rfl)
        refine eq_H (H' := [.obj true z4 z5 (.dat (T_store_Store_repo z30α.1.1 z30α.1.2)) z32.2.2, .obj true z13 0 (.dat T_ref05_State_rep) z9.1, .gone, .gone, .obj true z21α.2 0 (.dat T_ref05_State_rep) z23.1, .obj true z26α 0 (.dat T_ref05_State_rep) z28.1, .obj true 0 0 (mrep (z30α.1.1) (Rep.str) (Rep.int .i64)) z32.2.2.kinds, .obj true 0 0 (mrep (z30α.1.2) (T_store_place_rep) (T_api_Value_rep)) z32.2.2.set, (cond (S 8) (.obj true (z30α.2) 0 (.dat T_ref05_State_rep) T_ref05_State_zero) (.gone))]) (by first | exact hB z30α S true (S 8) false e4 rfl e9 | (have q := hB z30α S true (S 8) false e4 rfl e9; simp only [cond_true, cond_false] at q; exact q)) ?_
        refine o_move rfl rfl guard_none (look_d rfl rfl (pr hp 0 rfl rfl)) (fun _ => rfl) ?_
        apply h_endA (α := z30α) (z30α.1, z30α.2)
        · exact (.same (.same (.same (.same (.same (.same (.same (.same (.same (.same (.same .nil)))))))))))
        · exact rfl
        · exact rfl
        · exact rfl
        · exact hB (z30α.1, z30α.2) (fun k => S k || Nat.beq k 5) true (S 8) false (or_t e4) (or_ne rfl) (or_f e9 rfl)
      · intro z30α S hc hk hp
        have e4 : S 4 = true := (pr (hc 5 _ rfl (pr hp 0 rfl rfl)) 0 rfl rfl)
        have e9 : S 9 = false := (not_yet (j := 9) (q := 1) hc hk rfl rfl rfl rfl)
        refine eq_H (H' := [.obj true z4 z5 (.dat (T_store_Store_repo z30α.1.1 z30α.1.2)) z32.2.2, .obj true z13 0 (.dat T_ref05_State_rep) z9.1, .gone, .gone, .obj true z21α.2 0 (.dat T_ref05_State_rep) z23.1, .obj true z26α 0 (.dat T_ref05_State_rep) z28.1, .obj true 0 0 (mrep (z30α.1.1) (Rep.str) (Rep.int .i64)) z32.2.2.kinds, .obj true 0 0 (mrep (z30α.1.2) (T_store_place_rep) (T_api_Value_rep)) z32.2.2.set, (cond (S 8) (.obj true (z30α.2) 0 (.dat T_ref05_State_rep) T_ref05_State_zero) (.gone))]) (by first | exact hB z30α S true (S 8) false e4 rfl e9 | (have q := hB z30α S true (S 8) false e4 rfl e9; simp only [cond_true, cond_false] at q; exact q)) ?_
        refine o_fst rfl rfl guard_none (look_d rfl rfl (pr hp 0 rfl rfl)) (fun _ => rfl) ?_
        apply h_endA (α := z30α) (z30α.1, z30α.2)
        · exact (.same (.same (.same (.same (.same (.same (.same (.same (.same (.same (.same .nil)))))))))))
        · exact rfl
        · exact rfl
        · exact rfl
        · exact hB (z30α.1, z30α.2) (fun k => S k || Nat.beq k 6) true (S 8) false (or_t e4) (or_ne rfl) (or_f e9 rfl)
      · intro z30α S hc hk hp
        have e4 : S 4 = true := (pr (hc 5 _ rfl (pr hp 0 rfl rfl)) 0 rfl rfl)
        refine eq_H (H' := [.obj true z4 z5 (.dat (T_store_Store_repo z30α.1.1 z30α.1.2)) z32.2.2, .obj true z13 0 (.dat T_ref05_State_rep) z9.1, .gone, .gone, .obj true z21α.2 0 (.dat T_ref05_State_rep) z23.1, .obj true z26α 0 (.dat T_ref05_State_rep) z28.1, .obj true 0 0 (mrep (z30α.1.1) (Rep.str) (Rep.int .i64)) z32.2.2.kinds, .obj true 0 0 (mrep (z30α.1.2) (T_store_place_rep) (T_api_Value_rep)) z32.2.2.set, (cond (S 9) (.obj true (z30α.2) 0 (.dat T_ref05_State_rep) z32.1) ((cond (S 8) (.obj true (z30α.2) 0 (.dat T_ref05_State_rep) T_ref05_State_zero) (.gone))))]) (by first | exact hB z30α S true (S 8) (S 9) e4 rfl rfl | (have q := hB z30α S true (S 8) (S 9) e4 rfl rfl; simp only [cond_true, cond_false] at q; exact q)) ?_
        refine o_snd rfl rfl guard_none (look_d rfl rfl (pr hp 0 rfl rfl)) (fun _ => rfl) ?_
        apply h_endA (α := z30α) (z30α.1, z30α.2)
        · exact (.same (.same (.same (.same (.same (.same (.same (.same (.same (.same (.same .nil)))))))))))
        · exact rfl
        · exact rfl
        · exact rfl
        · exact hB (z30α.1, z30α.2) (fun k => S k || Nat.beq k 7) true (S 8) (S 9) (or_t e4) (or_ne rfl) (or_ne rfl)
      · intro z30α S hc hk hp
        have e9 : S 9 = false := (not_yet (j := 9) (q := 0) hc hk rfl rfl rfl rfl)
        refine eq_H (H' := [(cond (S 4) (.obj true z4 z5 (.dat (T_store_Store_repo z30α.1.1 z30α.1.2)) z32.2.2) (.obj true z4 z5 (.dat (T_store_Store_repo z21α.1.1 z21α.1.2)) z23.2.2)), .obj true z13 0 (.dat T_ref05_State_rep) z9.1, (cond (S 4) (.gone) (.obj true 0 0 (mrep z21α.1.1 (Rep.str) (Rep.int .i64)) z23.2.2.kinds)), (cond (S 4) (.gone) (.obj true 0 0 (mrep z21α.1.2 (T_store_place_rep) (T_api_Value_rep)) z23.2.2.set)), .obj true z21α.2 0 (.dat T_ref05_State_rep) z23.1, .obj true z26α 0 (.dat T_ref05_State_rep) z28.1, (cond (S 4) (.obj true 0 0 (mrep (z30α.1.1) (Rep.str) (Rep.int .i64)) z32.2.2.kinds) (.gone)), (cond (S 4) (.obj true 0 0 (mrep (z30α.1.2) (T_store_place_rep) (T_api_Value_rep)) z32.2.2.set) (.gone)), .gone]) (by first | exact hB z30α S (S 4) false false rfl hk e9 | (have q := hB z30α S (S 4) false false rfl hk e9; simp only [cond_true, cond_false] at q; exact q)) ?_
        refine o_alloc zero27 rfl rfl (fun z34 => ?_)
        refine o_weak (H' := [(cond (S 4) (.obj true z4 z5 (.dat (T_store_Store_repo z30α.1.1 z30α.1.2)) z32.2.2) (.obj true z4 z5 (.dat (T_store_Store_repo z21α.1.1 z21α.1.2)) z23.2.2)), .obj true z13 0 (.dat T_ref05_State_rep) z9.1, (cond (S 4) (.gone) (.obj true 0 0 (mrep z21α.1.1 (Rep.str) (Rep.int .i64)) z23.2.2.kinds)), (cond (S 4) (.gone) (.obj true 0 0 (mrep z21α.1.2 (T_store_place_rep) (T_api_Value_rep)) z23.2.2.set)), .obj true z21α.2 0 (.dat T_ref05_State_rep) z23.1, .obj true z26α 0 (.dat T_ref05_State_rep) z28.1, (cond (S 4) (.obj true 0 0 (mrep (z30α.1.1) (Rep.str) (Rep.int .i64)) z32.2.2.kinds) (.gone)), (cond (S 4) (.obj true 0 0 (mrep (z30α.1.2) (T_store_place_rep) (T_api_Value_rep)) z32.2.2.set) (.gone)), .obj true z34 0 (.dat T_ref05_State_rep) T_ref05_State_zero]) (sub_pick [1, 2, 3, 4, 5, 6, 7, 8, 0] rfl rfl) ?_
        apply h_endA (α := z30α) (z30α.1, z34)
        · exact (.same (.same (.same (.same (.same (.same (.same (.same (.off hk (.same (.same .nil)))))))))))
        · exact rfl
        · exact rfl
        · exact rfl
        · exact hB (z30α.1, z34) (fun k => S k || Nat.beq k 8) (S 4) true false (or_ne rfl) (or_i rfl) (or_f e9 rfl)
      · intro z30α S hc hk hp
        have e4 : S 4 = true := (pr hp 2 rfl rfl)
        have e8 : S 8 = true := (pr hp 0 rfl rfl)
        refine eq_H (H' := [.obj true z4 z5 (.dat (T_store_Store_repo z30α.1.1 z30α.1.2)) z32.2.2, .obj true z13 0 (.dat T_ref05_State_rep) z9.1, .gone, .gone, .obj true z21α.2 0 (.dat T_ref05_State_rep) z23.1, .obj true z26α 0 (.dat T_ref05_State_rep) z28.1, .obj true 0 0 (mrep (z30α.1.1) (Rep.str) (Rep.int .i64)) z32.2.2.kinds, .obj true 0 0 (mrep (z30α.1.2) (T_store_place_rep) (T_api_Value_rep)) z32.2.2.set, .obj true (z30α.2) 0 (.dat T_ref05_State_rep) T_ref05_State_zero]) (by first | exact hB z30α S true true false e4 e8 hk | (have q := hB z30α S true true false e4 e8 hk; simp only [cond_true, cond_false] at q; exact q)) ?_
        refine o_weak (H' := [.obj true (z30α.2) 0 (.dat T_ref05_State_rep) T_ref05_State_zero, .obj true z4 z5 (.dat (T_store_Store_repo z30α.1.1 z30α.1.2)) z32.2.2, .obj true z13 0 (.dat T_ref05_State_rep) z9.1, .gone, .gone, .obj true z21α.2 0 (.dat T_ref05_State_rep) z23.1, .obj true z26α 0 (.dat T_ref05_State_rep) z28.1, .obj true 0 0 (mrep (z30α.1.1) (Rep.str) (Rep.int .i64)) z32.2.2.kinds, .obj true 0 0 (mrep (z30α.1.2) (T_store_place_rep) (T_api_Value_rep)) z32.2.2.set]) (sub_pick [8, 0, 1, 2, 3, 4, 5, 6, 7] rfl rfl) ?_
        refine o_ostore type27 foc_self guard_none (look_d rfl rfl (pr hp 0 rfl rfl)) (fun _ => rfl) (look_d rfl rfl (pr hp 1 rfl rfl)) (fun _ => rfl) ?_
        refine o_weak (H' := [.obj true z4 z5 (.dat (T_store_Store_repo z30α.1.1 z30α.1.2)) z32.2.2, .obj true z13 0 (.dat T_ref05_State_rep) z9.1, .gone, .gone, .obj true z21α.2 0 (.dat T_ref05_State_rep) z23.1, .obj true z26α 0 (.dat T_ref05_State_rep) z28.1, .obj true 0 0 (mrep (z30α.1.1) (Rep.str) (Rep.int .i64)) z32.2.2.kinds, .obj true 0 0 (mrep (z30α.1.2) (T_store_place_rep) (T_api_Value_rep)) z32.2.2.set, .obj true (z30α.2) 0 (.dat T_ref05_State_rep) z32.1]) (sub_pick [1, 2, 3, 4, 5, 6, 7, 8, 0] rfl rfl) ?_
        refine h_none (n := 81) (d := 90) rfl rfl ?_
        apply h_endA (α := z30α) (z30α.1, z30α.2)
        · exact (.same (.same (.same (.same (.same (.same (.same (.same (.same (.same (.same .nil)))))))))))
        · exact rfl
        · exact rfl
        · exact rfl
        · exact hB (z30α.1, z30α.2) (fun k => S k || Nat.beq k 9) true true true (or_t e4) (or_t e8) (or_i rfl)
      · intro z30α S hc hk hp
        have e4 : S 4 = true := (pr hp 6 rfl rfl)
        have e8 : S 8 = true := (pr hp 10 rfl rfl)
        have e9 : S 9 = true := (pr hp 1 rfl rfl)
        refine eq_H (H' := [.obj true z4 z5 (.dat (T_store_Store_repo z30α.1.1 z30α.1.2)) z32.2.2, .obj true z13 0 (.dat T_ref05_State_rep) z9.1, .gone, .gone, .obj true z21α.2 0 (.dat T_ref05_State_rep) z23.1, .obj true z26α 0 (.dat T_ref05_State_rep) z28.1, .obj true 0 0 (mrep (z30α.1.1) (Rep.str) (Rep.int .i64)) z32.2.2.kinds, .obj true 0 0 (mrep (z30α.1.2) (T_store_place_rep) (T_api_Value_rep)) z32.2.2.set, .obj true (z30α.2) 0 (.dat T_ref05_State_rep) z32.1]) (by first | exact hB z30α S true true true e4 e8 e9 | (have q := hB z30α S true true true e4 e8 e9; simp only [cond_true, cond_false] at q; exact q)) ?_
        refine o_assign rfl rfl guard_none (look_d rfl rfl (pr hp 0 rfl rfl)) (fun _ => rfl) ?_
        apply h_endA (α := z30α) (z30α.1, z30α.2)
        · exact (.same (.same (.same (.same (.same (.same (.same (.same (.same (.same (.same .nil)))))))))))
        · exact rfl
        · exact rfl
        · exact rfl
        · exact hB (z30α.1, z30α.2) (fun k => S k || Nat.beq k 10) true true true (or_t e4) (or_t e8) (or_t e9)
      refine den_weak (H' := [.obj true z4 z5 (.dat (T_store_Store_repo z30α.1.1 z30α.1.2)) z32.2.2, .obj true z13 0 (.dat T_ref05_State_rep) z9.1, .obj true z21α.2 0 (.dat T_ref05_State_rep) z23.1, .obj true z26α 0 (.dat T_ref05_State_rep) z28.1, .obj true 0 0 (mrep z30α.1.1 (Rep.str) (Rep.int .i64)) z32.2.2.kinds, .obj true 0 0 (mrep z30α.1.2 (T_store_place_rep) (T_api_Value_rep)) z32.2.2.set, .obj true z30α.2 0 (.dat T_ref05_State_rep) z32.1]) (sub_pick [0, 1, 4, 5, 6, 7, 8] rfl rfl) ?_
      refine den_seq ?_
      refine den_open (fun z36 h_z36 => ?_)
      refine den_open (fun z37 h_z37 => ?_)
      have hB : ∀ (z35α : Nat) (S : Nat → Bool) (b8 b9 : Bool), S 8 = b8 → S 9 = b9 → (([.obj true z4 z5 (.dat (T_store_Store_repo z30α.1.1 z30α.1.2)) z32.2.2, .obj true z13 0 (.dat T_ref05_State_rep) z9.1, .obj true z21α.2 0 (.dat T_ref05_State_rep) z23.1, .obj true z26α 0 (.dat T_ref05_State_rep) z28.1, .obj true 0 0 (mrep z30α.1.1 (Rep.str) (Rep.int .i64)) z32.2.2.kinds, .obj true 0 0 (mrep z30α.1.2 (T_store_place_rep) (T_api_Value_rep)) z32.2.2.set, .obj true z30α.2 0 (.dat T_ref05_State_rep) z32.1, (cond (S 9) (.obj true (z35α) 0 (.dat T_ref05_State_rep) z37.1) ((cond (S 8) (.obj true (z35α) 0 (.dat T_ref05_State_rep) T_ref05_State_zero) (.gone))))] : List Go.Eng.Item)) = ([.obj true z4 z5 (.dat (T_store_Store_repo z30α.1.1 z30α.1.2)) z32.2.2, .obj true z13 0 (.dat T_ref05_State_rep) z9.1, .obj true z21α.2 0 (.dat T_ref05_State_rep) z23.1, .obj true z26α 0 (.dat T_ref05_State_rep) z28.1, .obj true 0 0 (mrep z30α.1.1 (Rep.str) (Rep.int .i64)) z32.2.2.kinds, .obj true 0 0 (mrep z30α.1.2 (T_store_place_rep) (T_api_Value_rep)) z32.2.2.set, .obj true z30α.2 0 (.dat T_ref05_State_rep) z32.1, (cond b9 (.obj true (z35α) 0 (.dat T_ref05_State_rep) z37.1) ((cond b8 (.obj true (z35α) 0 (.dat T_ref05_State_rep) T_ref05_State_zero) (.gone))))] : List Go.Eng.Item) := fun z35α S b8 b9 h8 h9 => by subst h8; subst h9; rfl
      refine den_weak sub_gone ?_
      refine den_weak (sub_pick (H' := [.obj true z4 z5 (.dat (T_store_Store_repo z30α.1.1 z30α.1.2)) z32.2.2, .obj true z13 0 (.dat T_ref05_State_rep) z9.1, .obj true z21α.2 0 (.dat T_ref05_State_rep) z23.1, .obj true z26α 0 (.dat T_ref05_State_rep) z28.1, .obj true 0 0 (mrep z30α.1.1 (Rep.str) (Rep.int .i64)) z32.2.2.kinds, .obj true 0 0 (mrep z30α.1.2 (T_store_place_rep) (T_api_Value_rep)) z32.2.2.set, .obj true z30α.2 0 (.dat T_ref05_State_rep) z32.1, .gone]) [1, 2, 3, 4, 5, 6, 7, 0] rfl rfl) ?_
      refine den_drawA (A := Nat) (H' := fun z35α => [.obj true z4 z5 (.dat (T_store_Store_repo z30α.1.1 z30α.1.2)) z32.2.2, .obj true z13 0 (.dat T_ref05_State_rep) z9.1, .obj true z21α.2 0 (.dat T_ref05_State_rep) z23.1, .obj true z26α 0 (.dat T_ref05_State_rep) z28.1, .obj true 0 0 (mrep z30α.1.1 (Rep.str) (Rep.int .i64)) z32.2.2.kinds, .obj true 0 0 (mrep z30α.1.2 (T_store_place_rep) (T_api_Value_rep)) z32.2.2.set, .obj true z30α.2 0 (.dat T_ref05_State_rep) z32.1, .obj true (z35α) 0 (.dat T_ref05_State_rep) z37.1]) (fun z35α => [(61, ⟨Rep.nilp, (), true⟩), (62, ⟨T_ref05_State_rep, z28.1, true⟩), (63, ⟨(T_law05_Op_rep).slice, b_2, true⟩), (64, ⟨(T_law05_Op_rep).slice, z36, true⟩), (65, ⟨Rep.pair (T_ref05_State_rep) (Rep.bool), z37, true⟩), (60, ⟨Rep.pair (T_ref05_State_rep) (Rep.bool), z37, true⟩), (66, ⟨T_ref05_State_rep, z37.1, true⟩), (67, ⟨Rep.bool, z37.2, true⟩), (19, ⟨Rep.addr, (z35α, 0), true⟩), (90, ⟨.any, (), false⟩), (20, ⟨Rep.bool, z37.2, true⟩)]) (fun z35α S => [.obj true z4 z5 (.dat (T_store_Store_repo z30α.1.1 z30α.1.2)) z32.2.2, .obj true z13 0 (.dat T_ref05_State_rep) z9.1, .obj true z21α.2 0 (.dat T_ref05_State_rep) z23.1, .obj true z26α 0 (.dat T_ref05_State_rep) z28.1, .obj true 0 0 (mrep z30α.1.1 (Rep.str) (Rep.int .i64)) z32.2.2.kinds, .obj true 0 0 (mrep z30α.1.2 (T_store_place_rep) (T_api_Value_rep)) z32.2.2.set, .obj true z30α.2 0 (.dat T_ref05_State_rep) z32.1, (cond (S 9) (.obj true (z35α) 0 (.dat T_ref05_State_rep) z37.1) ((cond (S 8) (.obj true (z35α) 0 (.dat T_ref05_State_rep) T_ref05_State_zero) (.gone))))]) 0 mixed (fun _ => rfl) rfl rfl (fun z35α S hS => hB z35α S true true (hS 8 (by decide)) (hS 9 (by decide))) ⟨?_, ?_, ?_, ?_, ?_, ?_, ?_, ?_, ?_, ?_, ?_, trivial⟩ (fun z35α => ?_)
      · intro z35α S hc hk hp
        have e9 : S 9 = false := (not_yet (j := 9) (q := 3) hc hk rfl rfl rfl rfl)
        refine eq_H (H' := [.obj true z4 z5 (.dat (T_store_Store_repo z30α.1.1 z30α.1.2)) z32.2.2, .obj true z13 0 (.dat T_ref05_State_rep) z9.1, .obj true z21α.2 0 (.dat T_ref05_State_rep) z23.1, .obj true z26α 0 (.dat T_ref05_State_rep) z28.1, .obj true 0 0 (mrep z30α.1.1 (Rep.str) (Rep.int .i64)) z32.2.2.kinds, .obj true 0 0 (mrep z30α.1.2 (T_store_place_rep) (T_api_Value_rep)) z32.2.2.set, .obj true z30α.2 0 (.dat T_ref05_State_rep) z32.1, (cond (S 8) (.obj true (z35α) 0 (.dat T_ref05_State_rep) T_ref05_State_zero) (.gone))]) (by first | exact hB z35α S (S 8) false rfl e9 | (have q := hB z35α S (S 8) false rfl e9; simp only [cond_true, cond_false] at q; exact q)) ?_
        refine o_move rfl rfl guard_none (look_o rfl rfl) (fun _ => rfl) ?_
        apply h_endA (α := z35α) z35α
        · exact (.same (.same (.same (.same (.same (.same (.same (.same (.same (.same (.same .nil)))))))))))
        · exact rfl
        · exact rfl
        · exact rfl
        · exact hB z35α (fun k => S k || Nat.beq k 0) (S 8) false (or_ne rfl) (or_f e9 rfl)
      · intro z35α S hc hk hp
        have e9 : S 9 = false := (not_yet (j := 9) (q := 4) hc hk rfl rfl rfl rfl)
        refine eq_H (H' := [.obj true z4 z5 (.dat (T_store_Store_repo z30α.1.1 z30α.1.2)) z32.2.2, .obj true z13 0 (.dat T_ref05_State_rep) z9.1, .obj true z21α.2 0 (.dat T_ref05_State_rep) z23.1, .obj true z26α 0 (.dat T_ref05_State_rep) z28.1, .obj true 0 0 (mrep z30α.1.1 (Rep.str) (Rep.int .i64)) z32.2.2.kinds, .obj true 0 0 (mrep z30α.1.2 (T_store_place_rep) (T_api_Value_rep)) z32.2.2.set, .obj true z30α.2 0 (.dat T_ref05_State_rep) z32.1, (cond (S 8) (.obj true (z35α) 0 (.dat T_ref05_State_rep) T_ref05_State_zero) (.gone))]) (by first | exact hB z35α S (S 8) false rfl e9 | (have q := hB z35α S (S 8) false rfl e9; simp only [cond_true, cond_false] at q; exact q)) ?_
        refine o_oloadi 3 rfl type27 foc_self rfl guard_none (look_o rfl rfl) (fun _ => rfl) ?_
        apply h_endA (α := z35α) z35α
        · exact (.same (.same (.same (.same (.same (.same (.same (.same (.same (.same (.same .nil)))))))))))
        · exact rfl
        · exact rfl
        · exact rfl
        · exact hB z35α (fun k => S k || Nat.beq k 1) (S 8) false (or_ne rfl) (or_f e9 rfl)
      · intro z35α S hc hk hp
        have e9 : S 9 = false := (not_yet (j := 9) (q := 5) hc hk rfl rfl rfl rfl)
        refine eq_H (H' := [.obj true z4 z5 (.dat (T_store_Store_repo z30α.1.1 z30α.1.2)) z32.2.2, .obj true z13 0 (.dat T_ref05_State_rep) z9.1, .obj true z21α.2 0 (.dat T_ref05_State_rep) z23.1, .obj true z26α 0 (.dat T_ref05_State_rep) z28.1, .obj true 0 0 (mrep z30α.1.1 (Rep.str) (Rep.int .i64)) z32.2.2.kinds, .obj true 0 0 (mrep z30α.1.2 (T_store_place_rep) (T_api_Value_rep)) z32.2.2.set, .obj true z30α.2 0 (.dat T_ref05_State_rep) z32.1, (cond (S 8) (.obj true (z35α) 0 (.dat T_ref05_State_rep) T_ref05_State_zero) (.gone))]) (by first | exact hB z35α S (S 8) false rfl e9 | (have q := hB z35α S (S 8) false rfl e9; simp only [cond_true, cond_false] at q; exact q)) ?_
        refine o_move rfl rfl guard_none (look_o rfl rfl) (fun _ => rfl) ?_
        apply h_endA (α := z35α) z35α
        · exact (.same (.same (.same (.same (.same (.same (.same (.same (.same (.same (.same .nil)))))))))))
        · exact rfl
        · exact rfl
        · exact rfl
        · exact hB z35α (fun k => S k || Nat.beq k 2) (S 8) false (or_ne rfl) (or_f e9 rfl)
      · intro z35α S hc hk hp
        have e9 : S 9 = false := (not_yet (j := 9) (q := 6) hc hk rfl rfl rfl rfl)
        refine eq_H (H' := [.obj true z4 z5 (.dat (T_store_Store_repo z30α.1.1 z30α.1.2)) z32.2.2, .obj true z13 0 (.dat T_ref05_State_rep) z9.1, .obj true z21α.2 0 (.dat T_ref05_State_rep) z23.1, .obj true z26α 0 (.dat T_ref05_State_rep) z28.1, .obj true 0 0 (mrep z30α.1.1 (Rep.str) (Rep.int .i64)) z32.2.2.kinds, .obj true 0 0 (mrep z30α.1.2 (T_store_place_rep) (T_api_Value_rep)) z32.2.2.set, .obj true z30α.2 0 (.dat T_ref05_State_rep) z32.1, (cond (S 8) (.obj true (z35α) 0 (.dat T_ref05_State_rep) T_ref05_State_zero) (.gone))]) (by first | exact hB z35α S (S 8) false rfl e9 | (have q := hB z35α S (S 8) false rfl e9; simp only [cond_true, cond_false] at q; exact q)) ?_
        refine o_from (bind_eqO h_z36) ?_
        refine o_call rfl rfl rfl callable18 (looks_cons (look_d rfl rfl (pr hp 0 rfl rfl)) (fun _ => rfl) (looks_nil)) (law05_few_ok _) (o_eqO ?_)
        apply h_endA (α := z35α) z35α
        · exact (.same (.same (.same (.same (.same (.same (.same (.same (.same (.same (.same .nil)))))))))))
        · exact rfl
        · exact rfl
        · exact rfl
        · exact hB z35α (fun k => S k || Nat.beq k 3) (S 8) false (or_ne rfl) (or_f e9 rfl)
      · intro z35α S hc hk hp
        have e9 : S 9 = false := (not_yet (j := 9) (q := 2) hc hk rfl rfl rfl rfl)
        refine eq_H (H' := [.obj true z4 z5 (.dat (T_store_Store_repo z30α.1.1 z30α.1.2)) z32.2.2, .obj true z13 0 (.dat T_ref05_State_rep) z9.1, .obj true z21α.2 0 (.dat T_ref05_State_rep) z23.1, .obj true z26α 0 (.dat T_ref05_State_rep) z28.1, .obj true 0 0 (mrep z30α.1.1 (Rep.str) (Rep.int .i64)) z32.2.2.kinds, .obj true 0 0 (mrep z30α.1.2 (T_store_place_rep) (T_api_Value_rep)) z32.2.2.set, .obj true z30α.2 0 (.dat T_ref05_State_rep) z32.1, (cond (S 8) (.obj true (z35α) 0 (.dat T_ref05_State_rep) T_ref05_State_zero) (.gone))]) (by first | exact hB z35α S (S 8) false rfl e9 | (have q := hB z35α S (S 8) false rfl e9; simp only [cond_true, cond_false] at q; exact q)) ?_
        refine o_from (bind_eqO h_z37) ?_
        refine o_call rfl rfl rfl callable16 (looks_cons (look_d rfl rfl (pr hp 0 rfl rfl)) (fun _ => rfl) (looks_cons (look_d rfl rfl (pr hp 1 rfl rfl)) (fun _ => rfl) (looks_cons (look_d rfl rfl (pr hp 2 rfl rfl)) (fun _ => rfl) (looks_nil)))) (law05_run_n0_ok _ _) (o_eqO ?_)
        apply h_endA (α := z35α) z35α
        · exact (.same (.same (.same (.same (.same (.same (.same (.same (.same (.same (.same .nil)))))))))))
        · exact rfl
        · exact rfl
        · exact rfl
        · exact hB z35α (fun k => S k || Nat.beq k 4) (S 8) false (or_ne rfl) (or_f e9 rfl)
      · intro z35α S hc hk hp
        have e9 : S 9 = false := (not_yet (j := 9) (q := 8) hc hk rfl rfl rfl rfl)
        refine eq_H (H' := [.obj true z4 z5 (.dat (T_store_Store_repo z30α.1.1 z30α.1.2)) z32.2.2, .obj true z13 0 (.dat T_ref05_State_rep) z9.1, .obj true z21α.2 0 (.dat T_ref05_State_rep) z23.1, .obj true z26α 0 (.dat T_ref05_State_rep) z28.1, .obj true 0 0 (mrep z30α.1.1 (Rep.str) (Rep.int .i64)) z32.2.2.kinds, .obj true 0 0 (mrep z30α.1.2 (T_store_place_rep) (T_api_Value_rep)) z32.2.2.set, .obj true z30α.2 0 (.dat T_ref05_State_rep) z32.1, (cond (S 8) (.obj true (z35α) 0 (.dat T_ref05_State_rep) T_ref05_State_zero) (.gone))]) (by first | exact hB z35α S (S 8) false rfl e9 | (have q := hB z35α S (S 8) false rfl e9; simp only [cond_true, cond_false] at q; exact q)) ?_
        refine o_move rfl rfl guard_none (look_d rfl rfl (pr hp 0 rfl rfl)) (fun _ => rfl) ?_
        apply h_endA (α := z35α) z35α
        · exact (.same (.same (.same (.same (.same (.same (.same (.same (.same (.same (.same .nil)))))))))))
        · exact rfl
        · exact rfl
        · exact rfl
        · exact hB z35α (fun k => S k || Nat.beq k 5) (S 8) false (or_ne rfl) (or_f e9 rfl)
      · intro z35α S hc hk hp
        have e9 : S 9 = false := (not_yet (j := 9) (q := 1) hc hk rfl rfl rfl rfl)
        refine eq_H (H' := [.obj true z4 z5 (.dat (T_store_Store_repo z30α.1.1 z30α.1.2)) z32.2.2, .obj true z13 0 (.dat T_ref05_State_rep) z9.1, .obj true z21α.2 0 (.dat T_ref05_State_rep) z23.1, .obj true z26α 0 (.dat T_ref05_State_rep) z28.1, .obj true 0 0 (mrep z30α.1.1 (Rep.str) (Rep.int .i64)) z32.2.2.kinds, .obj true 0 0 (mrep z30α.1.2 (T_store_place_rep) (T_api_Value_rep)) z32.2.2.set, .obj true z30α.2 0 (.dat T_ref05_State_rep) z32.1, (cond (S 8) (.obj true (z35α) 0 (.dat T_ref05_State_rep) T_ref05_State_zero) (.gone))]) (by first | exact hB z35α S (S 8) false rfl e9 | (have q := hB z35α S (S 8) false rfl e9; simp only [cond_true, cond_false] at q; exact q)) ?_
        refine o_fst rfl rfl guard_none (look_d rfl rfl (pr hp 0 rfl rfl)) (fun _ => rfl) ?_
        apply h_endA (α := z35α) z35α
        · exact (.same (.same (.same (.same (.same (.same (.same (.same (.same (.same (.same .nil)))))))))))
        · exact rfl
        · exact rfl
        · exact rfl
        · exact hB z35α (fun k => S k || Nat.beq k 6) (S 8) false (or_ne rfl) (or_f e9 rfl)
      · intro z35α S hc hk hp
        refine eq_H (H' := [.obj true z4 z5 (.dat (T_store_Store_repo z30α.1.1 z30α.1.2)) z32.2.2, .obj true z13 0 (.dat T_ref05_State_rep) z9.1, .obj true z21α.2 0 (.dat T_ref05_State_rep) z23.1, .obj true z26α 0 (.dat T_ref05_State_rep) z28.1, .obj true 0 0 (mrep z30α.1.1 (Rep.str) (Rep.int .i64)) z32.2.2.kinds, .obj true 0 0 (mrep z30α.1.2 (T_store_place_rep) (T_api_Value_rep)) z32.2.2.set, .obj true z30α.2 0 (.dat T_ref05_State_rep) z32.1, (cond (S 9) (.obj true (z35α) 0 (.dat T_ref05_State_rep) z37.1) ((cond (S 8) (.obj true (z35α) 0 (.dat T_ref05_State_rep) T_ref05_State_zero) (.gone))))]) (by first | exact hB z35α S (S 8) (S 9) rfl rfl | (have q := hB z35α S (S 8) (S 9) rfl rfl; simp only [cond_true, cond_false] at q; exact q)) ?_
        refine o_snd rfl rfl guard_none (look_d rfl rfl (pr hp 0 rfl rfl)) (fun _ => rfl) ?_
        apply h_endA (α := z35α) z35α
        · exact (.same (.same (.same (.same (.same (.same (.same (.same (.same (.same (.same .nil)))))))))))
        · exact rfl
        · exact rfl
        · exact rfl
        · exact hB z35α (fun k => S k || Nat.beq k 7) (S 8) (S 9) (or_ne rfl) (or_ne rfl)
      · intro z35α S hc hk hp
        have e9 : S 9 = false := (not_yet (j := 9) (q := 0) hc hk rfl rfl rfl rfl)
        refine eq_H (H' := [.obj true z4 z5 (.dat (T_store_Store_repo z30α.1.1 z30α.1.2)) z32.2.2, .obj true z13 0 (.dat T_ref05_State_rep) z9.1, .obj true z21α.2 0 (.dat T_ref05_State_rep) z23.1, .obj true z26α 0 (.dat T_ref05_State_rep) z28.1, .obj true 0 0 (mrep z30α.1.1 (Rep.str) (Rep.int .i64)) z32.2.2.kinds, .obj true 0 0 (mrep z30α.1.2 (T_store_place_rep) (T_api_Value_rep)) z32.2.2.set, .obj true z30α.2 0 (.dat T_ref05_State_rep) z32.1, .gone]) (by first | exact hB z35α S false false hk e9 | (have q := hB z35α S false false hk e9; simp only [cond_true, cond_false] at q; exact q)) ?_
        refine o_alloc zero27 rfl rfl (fun z38 => ?_)
        refine o_weak (H' := [.obj true z4 z5 (.dat (T_store_Store_repo z30α.1.1 z30α.1.2)) z32.2.2, .obj true z13 0 (.dat T_ref05_State_rep) z9.1, .obj true z21α.2 0 (.dat T_ref05_State_rep) z23.1, .obj true z26α 0 (.dat T_ref05_State_rep) z28.1, .obj true 0 0 (mrep z30α.1.1 (Rep.str) (Rep.int .i64)) z32.2.2.kinds, .obj true 0 0 (mrep z30α.1.2 (T_store_place_rep) (T_api_Value_rep)) z32.2.2.set, .obj true z30α.2 0 (.dat T_ref05_State_rep) z32.1, .obj true z38 0 (.dat T_ref05_State_rep) T_ref05_State_zero]) (sub_pick [1, 2, 3, 4, 5, 6, 7, 0] rfl rfl) ?_
        apply h_endA (α := z35α) z38
        · exact (.same (.same (.same (.same (.same (.same (.same (.same (.off hk (.same (.same .nil)))))))))))
        · exact rfl
        · exact rfl
        · exact rfl
        · exact hB z38 (fun k => S k || Nat.beq k 8) true false (or_i rfl) (or_f e9 rfl)
      · intro z35α S hc hk hp
        have e8 : S 8 = true := (pr hp 0 rfl rfl)
        refine eq_H (H' := [.obj true z4 z5 (.dat (T_store_Store_repo z30α.1.1 z30α.1.2)) z32.2.2, .obj true z13 0 (.dat T_ref05_State_rep) z9.1, .obj true z21α.2 0 (.dat T_ref05_State_rep) z23.1, .obj true z26α 0 (.dat T_ref05_State_rep) z28.1, .obj true 0 0 (mrep z30α.1.1 (Rep.str) (Rep.int .i64)) z32.2.2.kinds, .obj true 0 0 (mrep z30α.1.2 (T_store_place_rep) (T_api_Value_rep)) z32.2.2.set, .obj true z30α.2 0 (.dat T_ref05_State_rep) z32.1, .obj true (z35α) 0 (.dat T_ref05_State_rep) T_ref05_State_zero]) (by first | exact hB z35α S true false e8 hk | (have q := hB z35α S true false e8 hk; simp only [cond_true, cond_false] at q; exact q)) ?_
        refine o_weak (H' := [.obj true (z35α) 0 (.dat T_ref05_State_rep) T_ref05_State_zero, .obj true z4 z5 (.dat (T_store_Store_repo z30α.1.1 z30α.1.2)) z32.2.2, .obj true z13 0 (.dat T_ref05_State_rep) z9.1, .obj true z21α.2 0 (.dat T_ref05_State_rep) z23.1, .obj true z26α 0 (.dat T_ref05_State_rep) z28.1, .obj true 0 0 (mrep z30α.1.1 (Rep.str) (Rep.int .i64)) z32.2.2.kinds, .obj true 0 0 (mrep z30α.1.2 (T_store_place_rep) (T_api_Value_rep)) z32.2.2.set, .obj true z30α.2 0 (.dat T_ref05_State_rep) z32.1]) (sub_pick [7, 0, 1, 2, 3, 4, 5, 6] rfl rfl) ?_
        refine o_ostore type27 foc_self guard_none (look_d rfl rfl (pr hp 0 rfl rfl)) (fun _ => rfl) (look_d rfl rfl (pr hp 1 rfl rfl)) (fun _ => rfl) ?_
        refine o_weak (H' := [.obj true z4 z5 (.dat (T_store_Store_repo z30α.1.1 z30α.1.2)) z32.2.2, .obj true z13 0 (.dat T_ref05_State_rep) z9.1, .obj true z21α.2 0 (.dat T_ref05_State_rep) z23.1, .obj true z26α 0 (.dat T_ref05_State_rep) z28.1, .obj true 0 0 (mrep z30α.1.1 (Rep.str) (Rep.int .i64)) z32.2.2.kinds, .obj true 0 0 (mrep z30α.1.2 (T_store_place_rep) (T_api_Value_rep)) z32.2.2.set, .obj true z30α.2 0 (.dat T_ref05_State_rep) z32.1, .obj true (z35α) 0 (.dat T_ref05_State_rep) z37.1]) (sub_pick [1, 2, 3, 4, 5, 6, 7, 0] rfl rfl) ?_
        refine h_none (n := 81) (d := 90) rfl rfl ?_
        apply h_endA (α := z35α) z35α
        · exact (.same (.same (.same (.same (.same (.same (.same (.same (.same (.same (.same .nil)))))))))))
        · exact rfl
        · exact rfl
        · exact rfl
        · exact hB z35α (fun k => S k || Nat.beq k 9) true true (or_t e8) (or_i rfl)
      · intro z35α S hc hk hp
        have e8 : S 8 = true := (pr hp 10 rfl rfl)
        have e9 : S 9 = true := (pr hp 1 rfl rfl)
        refine eq_H (H' := [.obj true z4 z5 (.dat (T_store_Store_repo z30α.1.1 z30α.1.2)) z32.2.2, .obj true z13 0 (.dat T_ref05_State_rep) z9.1, .obj true z21α.2 0 (.dat T_ref05_State_rep) z23.1, .obj true z26α 0 (.dat T_ref05_State_rep) z28.1, .obj true 0 0 (mrep z30α.1.1 (Rep.str) (Rep.int .i64)) z32.2.2.kinds, .obj true 0 0 (mrep z30α.1.2 (T_store_place_rep) (T_api_Value_rep)) z32.2.2.set, .obj true z30α.2 0 (.dat T_ref05_State_rep) z32.1, .obj true (z35α) 0 (.dat T_ref05_State_rep) z37.1]) (by first | exact hB z35α S true true e8 e9 | (have q := hB z35α S true true e8 e9; simp only [cond_true, cond_false] at q; exact q)) ?_
        refine o_assign rfl rfl guard_none (look_d rfl rfl (pr hp 0 rfl rfl)) (fun _ => rfl) ?_
        apply h_endA (α := z35α) z35α
        · exact (.same (.same (.same (.same (.same (.same (.same (.same (.same (.same (.same .nil)))))))))))
        · exact rfl
        · exact rfl
        · exact rfl
        · exact hB z35α (fun k => S k || Nat.beq k 10) true true (or_t e8) (or_t e9)
      refine den_seq ?_
      refine den_region rfl ?_
      refine o_move rfl rfl guard_none (look_tmp rfl) (fun _ => rfl) ?_
      refine o_move rfl rfl guard_none (look_tmp rfl) (fun _ => rfl) ?_
      refine o_move rfl rfl (guard_some rfl rfl rfl) (look_tmp rfl) (fun _ => rfl) ?_
      refine o_pick rfl rfl guard_none (look_tmp rfl) (look_tmp rfl) look_bool (fun _ => rfl) (fun h1 h2 => pick_t ((fun _ => rfl) h1) h2) (fun _ _ => rfl) ?_
      refine o_move rfl rfl guard_none (look_tmp rfl) (fun _ => rfl) ?_
      refine o_move rfl rfl (guard_some rfl rfl rfl) (look_tmp rfl) (fun _ => rfl) ?_
      refine o_pick rfl rfl guard_none (look_tmp rfl) (look_tmp rfl) look_bool (fun _ => rfl) (fun h1 h2 => pick_t ((fun _ => rfl) h1) h2) (fun _ _ => rfl) ?_
      refine o_move rfl rfl guard_none (look_tmp rfl) (fun _ => rfl) ?_
      refine o_move rfl rfl (guard_some rfl rfl rfl) (look_tmp rfl) (fun _ => rfl) ?_
      refine o_pick rfl rfl guard_none (look_tmp rfl) (look_tmp rfl) look_bool (fun _ => rfl) (fun h1 h2 => pick_t ((fun _ => rfl) h1) h2) (fun _ _ => rfl) ?_
      refine o_move rfl rfl guard_none (look_tmp rfl) (fun _ => rfl) ?_
      refine o_move rfl rfl (guard_some rfl rfl rfl) (look_tmp rfl) (fun _ => rfl) ?_
      refine o_pick rfl rfl guard_none (look_tmp rfl) (look_tmp rfl) look_bool (fun _ => rfl) (fun h1 h2 => pick_t ((fun _ => rfl) h1) h2) (fun _ _ => rfl) ?_
      refine o_assign rfl rfl guard_none (look_tmp rfl) (fun _ => rfl) ?_
      refine o_lt (fun z39 => ?_)
      refine o_end ?_
      refine den_code_ret ?_
      exact dene_res (res1 rfl (rv_tmp rfl))
    · refine o_weak (H' := [.obj true 0 0 (mrep z18 (Rep.str) (Rep.int .i64)) z20.kinds, .obj true 0 0 (mrep z19 (T_store_place_rep) (T_api_Value_rep)) z20.set, .obj true z16 z17 (.dat (T_store_Store_repo z18 z19)) z20, .obj true 0 0 (mrep z11 (Rep.str) (Rep.int .i64)) z9.2.2.kinds, .obj true 0 0 (mrep z12 (T_store_place_rep) (T_api_Value_rep)) z9.2.2.set, .obj true z4 z5 (.dat (T_store_Store_repo z11 z12)) z9.2.2, .obj true z13 0 (.dat T_ref05_State_rep) z9.1]) (sub_pick [0, 1, 2, 3, 4, 5, 6] rfl rfl) ?_
      refine o_asptr ?_
      refine o_opts ?_
      refine o_assign rfl rfl guard_none (look_tmp rfl) (fun _ => rfl) ?_
      refine o_end ?_
      refine den_seq ?_
      refine den_open (fun z41 h_z41 => ?_)
      refine den_open (fun z42 h_z42 => ?_)
      have hB : ∀ (z40α : ((Value × Value) × Nat)) (S : Nat → Bool) (b4 b8 b9 : Bool), S 4 = b4 → S 8 = b8 → S 9 = b9 → (([.obj true 0 0 (mrep z18 (Rep.str) (Rep.int .i64)) z20.kinds, .obj true 0 0 (mrep z19 (T_store_place_rep) (T_api_Value_rep)) z20.set, .obj true z16 z17 (.dat (T_store_Store_repo z18 z19)) z20, (cond (S 4) (.gone) (.obj true 0 0 (mrep z11 (Rep.str) (Rep.int .i64)) z9.2.2.kinds)), (cond (S 4) (.gone) (.obj true 0 0 (mrep z12 (T_store_place_rep) (T_api_Value_rep)) z9.2.2.set)), (cond (S 4) (.obj true z4 z5 (.dat (T_store_Store_repo z40α.1.1 z40α.1.2)) z42.2.2) (.obj true z4 z5 (.dat (T_store_Store_repo z11 z12)) z9.2.2)), .obj true z13 0 (.dat T_ref05_State_rep) z9.1, (cond (S 4) (.obj true 0 0 (mrep (z40α.1.1) (Rep.str) (Rep.int .i64)) z42.2.2.kinds) (.gone)), (cond (S 4) (.obj true 0 0 (mrep (z40α.1.2) (T_store_place_rep) (T_api_Value_rep)) z42.2.2.set) (.gone)), (cond (S 9) (.obj true (z40α.2) 0 (.dat T_ref05_State_rep) z42.1) ((cond (S 8) (.obj true (z40α.2) 0 (.dat T_ref05_State_rep) T_ref05_State_zero) (.gone))))] : List Go.Eng.Item)) = ([.obj true 0 0 (mrep z18 (Rep.str) (Rep.int .i64)) z20.kinds, .obj true 0 0 (mrep z19 (T_store_place_rep) (T_api_Value_rep)) z20.set, .obj true z16 z17 (.dat (T_store_Store_repo z18 z19)) z20, (cond b4 (.gone) (.obj true 0 0 (mrep z11 (Rep.str) (Rep.int .i64)) z9.2.2.kinds)), (cond b4 (.gone) (.obj true 0 0 (mrep z12 (T_store_place_rep) (T_api_Value_rep)) z9.2.2.set)), (cond b4 (.obj true z4 z5 (.dat (T_store_Store_repo z40α.1.1 z40α.1.2)) z42.2.2) (.obj true z4 z5 (.dat (T_store_Store_repo z11 z12)) z9.2.2)), .obj true z13 0 (.dat T_ref05_State_rep) z9.1, (cond b4 (.obj true 0 0 (mrep (z40α.1.1) (Rep.str) (Rep.int .i64)) z42.2.2.kinds) (.gone)), (cond b4 (.obj true 0 0 (mrep (z40α.1.2) (T_store_place_rep) (T_api_Value_rep)) z42.2.2.set) (.gone)), (cond b9 (.obj true (z40α.2) 0 (.dat T_ref05_State_rep) z42.1) ((cond b8 (.obj true (z40α.2) 0 (.dat T_ref05_State_rep) T_ref05_State_zero) (.gone))))] : List Go.Eng.Item) := fun z40α S b4 b8 b9 h4 h8 h9 => by subst h4; subst h8; subst h9; rfl
      refine den_weak sub_gone ?_
      refine den_weak sub_gone ?_
      refine den_weak sub_gone ?_
      refine den_weak (sub_pick (H' := [.obj true 0 0 (mrep z18 (Rep.str) (Rep.int .i64)) z20.kinds, .obj true 0 0 (mrep z19 (T_store_place_rep) (T_api_Value_rep)) z20.set, .obj true z16 z17 (.dat (T_store_Store_repo z18 z19)) z20, .obj true 0 0 (mrep z11 (Rep.str) (Rep.int .i64)) z9.2.2.kinds, .obj true 0 0 (mrep z12 (T_store_place_rep) (T_api_Value_rep)) z9.2.2.set, .obj true z4 z5 (.dat (T_store_Store_repo z11 z12)) z9.2.2, .obj true z13 0 (.dat T_ref05_State_rep) z9.1, .gone, .gone, .gone]) [3, 4, 5, 6, 7, 8, 9, 0, 1, 2] rfl rfl) ?_
      refine den_drawA (A := ((Value × Value) × Nat)) (H' := fun z40α => [.obj true 0 0 (mrep z18 (Rep.str) (Rep.int .i64)) z20.kinds, .obj true 0 0 (mrep z19 (T_store_place_rep) (T_api_Value_rep)) z20.set, .obj true z16 z17 (.dat (T_store_Store_repo z18 z19)) z20, .gone, .gone, .obj true z4 z5 (.dat (T_store_Store_repo z40α.1.1 z40α.1.2)) z42.2.2, .obj true z13 0 (.dat T_ref05_State_rep) z9.1, .obj true 0 0 (mrep (z40α.1.1) (Rep.str) (Rep.int .i64)) z42.2.2.kinds, .obj true 0 0 (mrep (z40α.1.2) (T_store_place_rep) (T_api_Value_rep)) z42.2.2.set, .obj true (z40α.2) 0 (.dat T_ref05_State_rep) z42.1]) (fun z40α => [(37, ⟨Rep.addr, (z4, z5), true⟩), (38, ⟨T_ref05_State_rep, z9.1, true⟩), (39, ⟨(T_law05_Op_rep).slice, b_2, true⟩), (40, ⟨(T_law05_Op_rep).slice, z41, true⟩), (41, ⟨Rep.pair (T_ref05_State_rep) (Rep.bool), (z42.1, z42.2.1), true⟩), (36, ⟨Rep.pair (T_ref05_State_rep) (Rep.bool), (z42.1, z42.2.1), true⟩), (42, ⟨T_ref05_State_rep, z42.1, true⟩), (43, ⟨Rep.bool, z42.2.1, true⟩), (13, ⟨Rep.addr, (z40α.2, 0), true⟩), (90, ⟨.any, (), false⟩), (14, ⟨Rep.bool, z42.2.1, true⟩)]) (fun z40α S => [.obj true 0 0 (mrep z18 (Rep.str) (Rep.int .i64)) z20.kinds, .obj true 0 0 (mrep z19 (T_store_place_rep) (T_api_Value_rep)) z20.set, .obj true z16 z17 (.dat (T_store_Store_repo z18 z19)) z20, (cond (S 4) (.gone) (.obj true 0 0 (mrep z11 (Rep.str) (Rep.int .i64)) z9.2.2.kinds)), (cond (S 4) (.gone) (.obj true 0 0 (mrep z12 (T_store_place_rep) (T_api_Value_rep)) z9.2.2.set)), (cond (S 4) (.obj true z4 z5 (.dat (T_store_Store_repo z40α.1.1 z40α.1.2)) z42.2.2) (.obj true z4 z5 (.dat (T_store_Store_repo z11 z12)) z9.2.2)), .obj true z13 0 (.dat T_ref05_State_rep) z9.1, (cond (S 4) (.obj true 0 0 (mrep (z40α.1.1) (Rep.str) (Rep.int .i64)) z42.2.2.kinds) (.gone)), (cond (S 4) (.obj true 0 0 (mrep (z40α.1.2) (T_store_place_rep) (T_api_Value_rep)) z42.2.2.set) (.gone)), (cond (S 9) (.obj true (z40α.2) 0 (.dat T_ref05_State_rep) z42.1) ((cond (S 8) (.obj true (z40α.2) 0 (.dat T_ref05_State_rep) T_ref05_State_zero) (.gone))))]) (((Value.slice none 0 0), (Value.slice none 0 0)), 0) mixed (fun _ => rfl) rfl rfl (fun z40α S hS => hB z40α S true true true (hS 4 (by decide)) (hS 8 (by decide)) (hS 9 (by decide))) ⟨?_, ?_, ?_, ?_, ?_, ?_, ?_, ?_, ?_, ?_, ?_, trivial⟩ (fun z40α => ?_)
      · intro z40α S hc hk hp
        have e4 : S 4 = false := (not_yet (j := 4) (q := 0) hc hk rfl rfl rfl rfl)
        have e9 : S 9 = false := (not_yet (j := 9) (q := 3) hc hk rfl rfl rfl rfl)
        refine eq_H (H' := [.obj true 0 0 (mrep z18 (Rep.str) (Rep.int .i64)) z20.kinds, .obj true 0 0 (mrep z19 (T_store_place_rep) (T_api_Value_rep)) z20.set, .obj true z16 z17 (.dat (T_store_Store_repo z18 z19)) z20, .obj true 0 0 (mrep z11 (Rep.str) (Rep.int .i64)) z9.2.2.kinds, .obj true 0 0 (mrep z12 (T_store_place_rep) (T_api_Value_rep)) z9.2.2.set, .obj true z4 z5 (.dat (T_store_Store_repo z11 z12)) z9.2.2, .obj true z13 0 (.dat T_ref05_State_rep) z9.1, .gone, .gone, (cond (S 8) (.obj true (z40α.2) 0 (.dat T_ref05_State_rep) T_ref05_State_zero) (.gone))]) (by first | exact hB z40α S false (S 8) false e4 rfl e9 | (have q := hB z40α S false (S 8) false e4 rfl e9; simp only [cond_true, cond_false] at q; exact q)) ?_
        refine o_move rfl rfl guard_none (look_o rfl rfl) (fun _ => rfl) ?_
        apply h_endA (α := z40α) (z40α.1, z40α.2)
        · exact (.same (.same (.same (.same (.same (.same (.same (.same (.same (.same (.same .nil)))))))))))
        · exact rfl
        · exact rfl
        · exact rfl
        · exact hB (z40α.1, z40α.2) (fun k => S k || Nat.beq k 0) false (S 8) false (or_f e4 rfl) (or_ne rfl) (or_f e9 rfl)
      · intro z40α S hc hk hp
        have e4 : S 4 = false := (not_yet (j := 4) (q := 1) hc hk rfl rfl rfl rfl)
        have e9 : S 9 = false := (not_yet (j := 9) (q := 4) hc hk rfl rfl rfl rfl)
        refine eq_H (H' := [.obj true 0 0 (mrep z18 (Rep.str) (Rep.int .i64)) z20.kinds, .obj true 0 0 (mrep z19 (T_store_place_rep) (T_api_Value_rep)) z20.set, .obj true z16 z17 (.dat (T_store_Store_repo z18 z19)) z20, .obj true 0 0 (mrep z11 (Rep.str) (Rep.int .i64)) z9.2.2.kinds, .obj true 0 0 (mrep z12 (T_store_place_rep) (T_api_Value_rep)) z9.2.2.set, .obj true z4 z5 (.dat (T_store_Store_repo z11 z12)) z9.2.2, .obj true z13 0 (.dat T_ref05_State_rep) z9.1, .gone, .gone, (cond (S 8) (.obj true (z40α.2) 0 (.dat T_ref05_State_rep) T_ref05_State_zero) (.gone))]) (by first | exact hB z40α S false (S 8) false e4 rfl e9 | (have q := hB z40α S false (S 8) false e4 rfl e9; simp only [cond_true, cond_false] at q; exact q)) ?_
        refine o_oloadi 6 rfl type27 foc_self rfl guard_none (look_o rfl rfl) (fun _ => rfl) ?_
        apply h_endA (α := z40α) (z40α.1, z40α.2)
        · exact (.same (.same (.same (.same (.same (.same (.same (.same (.same (.same (.same .nil)))))))))))
        · exact rfl
        · exact rfl
        · exact rfl
        · exact hB (z40α.1, z40α.2) (fun k => S k || Nat.beq k 1) false (S 8) false (or_f e4 rfl) (or_ne rfl) (or_f e9 rfl)
      · intro z40α S hc hk hp
        have e4 : S 4 = false := (not_yet (j := 4) (q := 2) hc (not_yet (j := 3) (q := 0) hc hk rfl rfl rfl rfl) rfl rfl rfl rfl)
        have e9 : S 9 = false := (not_yet (j := 9) (q := 5) hc hk rfl rfl rfl rfl)
        refine eq_H (H' := [.obj true 0 0 (mrep z18 (Rep.str) (Rep.int .i64)) z20.kinds, .obj true 0 0 (mrep z19 (T_store_place_rep) (T_api_Value_rep)) z20.set, .obj true z16 z17 (.dat (T_store_Store_repo z18 z19)) z20, .obj true 0 0 (mrep z11 (Rep.str) (Rep.int .i64)) z9.2.2.kinds, .obj true 0 0 (mrep z12 (T_store_place_rep) (T_api_Value_rep)) z9.2.2.set, .obj true z4 z5 (.dat (T_store_Store_repo z11 z12)) z9.2.2, .obj true z13 0 (.dat T_ref05_State_rep) z9.1, .gone, .gone, (cond (S 8) (.obj true (z40α.2) 0 (.dat T_ref05_State_rep) T_ref05_State_zero) (.gone))]) (by first | exact hB z40α S false (S 8) false e4 rfl e9 | (have q := hB z40α S false (S 8) false e4 rfl e9; simp only [cond_true, cond_false] at q; exact q)) ?_
        refine o_move rfl rfl guard_none (look_o rfl rfl) (fun _ => rfl) ?_
        apply h_endA (α := z40α) (z40α.1, z40α.2)
        · exact (.same (.same (.same (.same (.same (.same (.same (.same (.same (.same (.same .nil)))))))))))
        · exact rfl
        · exact rfl
        · exact rfl
        · exact hB (z40α.1, z40α.2) (fun k => S k || Nat.beq k 2) false (S 8) false (or_f e4 rfl) (or_ne rfl) (or_f e9 rfl)
      · intro z40α S hc hk hp
        have e4 : S 4 = false := (not_yet (j := 4) (q := 2) hc hk rfl rfl rfl rfl)
        have e9 : S 9 = false := (not_yet (j := 9) (q := 6) hc hk rfl rfl rfl rfl)
        refine eq_H (H' := [.obj true 0 0 (mrep z18 (Rep.str) (Rep.int .i64)) z20.kinds, .obj true 0 0 (mrep z19 (T_store_place_rep) (T_api_Value_rep)) z20.set, .obj true z16 z17 (.dat (T_store_Store_repo z18 z19)) z20, .obj true 0 0 (mrep z11 (Rep.str) (Rep.int .i64)) z9.2.2.kinds, .obj true 0 0 (mrep z12 (T_store_place_rep) (T_api_Value_rep)) z9.2.2.set, .obj true z4 z5 (.dat (T_store_Store_repo z11 z12)) z9.2.2, .obj true z13 0 (.dat T_ref05_State_rep) z9.1, .gone, .gone, (cond (S 8) (.obj true (z40α.2) 0 (.dat T_ref05_State_rep) T_ref05_State_zero) (.gone))]) (by first | exact hB z40α S false (S 8) false e4 rfl e9 | (have q := hB z40α S false (S 8) false e4 rfl e9; simp only [cond_true, cond_false] at q; exact q)) ?_
        refine o_from (bind_eqO h_z41) ?_
        refine o_call rfl rfl rfl callable18 (looks_cons (look_d rfl rfl (pr hp 0 rfl rfl)) (fun _ => rfl) (looks_nil)) (law05_few_ok _) (o_eqO ?_)
        apply h_endA (α := z40α) (z40α.1, z40α.2)
        · exact (.same (.same (.same (.same (.same (.same (.same (.same (.same (.same (.same .nil)))))))))))
        · exact rfl
        · exact rfl
        · exact rfl
        · exact hB (z40α.1, z40α.2) (fun k => S k || Nat.beq k 3) false (S 8) false (or_f e4 rfl) (or_ne rfl) (or_f e9 rfl)
      · intro z40α S hc hk hp
        have e9 : S 9 = false := (not_yet (j := 9) (q := 2) hc hk rfl rfl rfl rfl)
        refine eq_H (H' := [.obj true 0 0 (mrep z18 (Rep.str) (Rep.int .i64)) z20.kinds, .obj true 0 0 (mrep z19 (T_store_place_rep) (T_api_Value_rep)) z20.set, .obj true z16 z17 (.dat (T_store_Store_repo z18 z19)) z20, .obj true 0 0 (mrep z11 (Rep.str) (Rep.int .i64)) z9.2.2.kinds, .obj true 0 0 (mrep z12 (T_store_place_rep) (T_api_Value_rep)) z9.2.2.set, .obj true z4 z5 (.dat (T_store_Store_repo z11 z12)) z9.2.2, .obj true z13 0 (.dat T_ref05_State_rep) z9.1, .gone, .gone, (cond (S 8) (.obj true (z40α.2) 0 (.dat T_ref05_State_rep) T_ref05_State_zero) (.gone))]) (by first | exact hB z40α S false (S 8) false hk rfl e9 | (have q := hB z40α S false (S 8) false hk rfl e9; simp only [cond_true, cond_false] at q; exact q)) ?_
        refine o_from (bind_eqO h_z42) ?_
        refine o_weak (H' := [.obj true 0 0 (mrep z11 (Rep.str) (Rep.int .i64)) z9.2.2.kinds, .obj true 0 0 (mrep z12 (T_store_place_rep) (T_api_Value_rep)) z9.2.2.set, .obj true z4 z5 (.dat (T_store_Store_repo z11 z12)) z9.2.2] ++ ([] ++ [.obj true 0 0 (mrep z18 (Rep.str) (Rep.int .i64)) z20.kinds, .obj true 0 0 (mrep z19 (T_store_place_rep) (T_api_Value_rep)) z20.set, .obj true z16 z17 (.dat (T_store_Store_repo z18 z19)) z20, .obj true z13 0 (.dat T_ref05_State_rep) z9.1, .gone, .gone, (cond (S 8) (.obj true (z40α.2) 0 (.dat T_ref05_State_rep) T_ref05_State_zero) (.gone))])) (sub_pick [3, 4, 5, 0, 1, 2, 6, 7, 8, 9] rfl rfl) ?_
        refine o_callU rfl rfl rfl rfl rfl callable16 (looks_cons (look_d rfl rfl (pr hp 0 rfl rfl)) (fun _ => rfl) (looks_cons (look_d rfl rfl (pr hp 1 rfl rfl)) (fun _ => rfl) (looks_cons (look_d rfl rfl (pr hp 2 rfl rfl)) (fun _ => rfl) (looks_nil)))) .nil (law05_run_ok _ _ _ _ z9.2.2 z9.1 z41) (fun _ _ => (wr_c (wr_c (wr_c wr_n)))) (fun z43α => o_eqOH ?_)
        refine o_weak (H' := [.obj true 0 0 (mrep z43α.1 (Rep.str) (Rep.int .i64)) z42.2.2.kinds, .obj true 0 0 (mrep z43α.2 (T_store_place_rep) (T_api_Value_rep)) z42.2.2.set, .obj true z4 z5 (.dat (T_store_Store_repo z43α.1 z43α.2)) z42.2.2, .obj true 0 0 (mrep z18 (Rep.str) (Rep.int .i64)) z20.kinds, .obj true 0 0 (mrep z19 (T_store_place_rep) (T_api_Value_rep)) z20.set, .obj true z16 z17 (.dat (T_store_Store_repo z18 z19)) z20, .obj true z13 0 (.dat T_ref05_State_rep) z9.1, .gone, .gone, (cond (S 8) (.obj true (z40α.2) 0 (.dat T_ref05_State_rep) T_ref05_State_zero) (.gone))]) (sub_pick [0, 1, 2, 3, 4, 5, 6, 7, 8, 9] rfl rfl) ?_
        refine o_weak sub_gone ?_
        refine o_weak sub_gone ?_
        refine o_weak (H' := [.obj true 0 0 (mrep z18 (Rep.str) (Rep.int .i64)) z20.kinds, .obj true 0 0 (mrep z19 (T_store_place_rep) (T_api_Value_rep)) z20.set, .obj true z16 z17 (.dat (T_store_Store_repo z18 z19)) z20, .gone, .gone, .obj true z4 z5 (.dat (T_store_Store_repo z43α.1 z43α.2)) z42.2.2, .obj true z13 0 (.dat T_ref05_State_rep) z9.1, .obj true 0 0 (mrep z43α.1 (Rep.str) (Rep.int .i64)) z42.2.2.kinds, .obj true 0 0 (mrep z43α.2 (T_store_place_rep) (T_api_Value_rep)) z42.2.2.set, (cond (S 8) (.obj true (z40α.2) 0 (.dat T_ref05_State_rep) T_ref05_State_zero) (.gone))]) (sub_pick [5, 6, 7, 1, 0, 4, 8, 2, 3, 11] rfl rfl) ?_
        apply h_endA (α := z40α) (z43α, z40α.2)
        · exact (.same (.same (.same (.same (.same (.same (.same (.same (.same (.same (.same .nil)))))))))))
        · exact rfl
        · exact rfl
        · exact rfl
        · exact hB (z43α, z40α.2) (fun k => S k || Nat.beq k 4) true (S 8) false (or_i rfl) (or_ne rfl) (or_f e9 rfl)
      · intro z40α S hc hk hp
        have e4 : S 4 = true := (pr hp 0 rfl rfl)
        have e9 : S 9 = false := (not_yet (j := 9) (q := 8) hc hk rfl rfl rfl rfl)
        refine eq_H (H' := [.obj true 0 0 (mrep z18 (Rep.str) (Rep.int .i64)) z20.kinds, .obj true 0 0 (mrep z19 (T_store_place_rep) (T_api_Value_rep)) z20.set, .obj true z16 z17 (.dat (T_store_Store_repo z18 z19)) z20, .gone, .gone, .obj true z4 z5 (.dat (T_store_Store_repo z40α.1.1 z40α.1.2)) z42.2.2, .obj true z13 0 (.dat T_ref05_State_rep) z9.1, .obj true 0 0 (mrep (z40α.1.1) (Rep.str) (Rep.int .i64)) z42.2.2.kinds, .obj true 0 0 (mrep (z40α.1.2) (T_store_place_rep) (T_api_Value_rep)) z42.2.2.set, (cond (S 8) (.obj true (z40α.2) 0 (.dat T_ref05_State_rep) T_ref05_State_zero) (.gone))]) (by first | exact hB z40α S true (S 8) false e4 rfl e9 | (have q := hB z40α S true (S 8) false e4 rfl e9; simp only [cond_true, cond_false] at q; exact q)) ?_
        refine o_move rfl rfl guard_none (look_d rfl rfl (pr hp 0 rfl rfl)) (fun _ => rfl) ?_
        apply h_endA (α := z40α) (z40α.1, z40α.2)
        · exact (.same (.same (.same (.same (.same (.same (.same (.same (.same (.same (.same .nil)))))))))))
        · exact rfl
        · exact rfl
        · exact rfl
        · exact hB (z40α.1, z40α.2) (fun k => S k || Nat.beq k 5) true (S 8) false (or_t e4) (or_ne rfl) (or_f e9 rfl)
      · intro z40α S hc hk hp
        have e4 : S 4 = true := (pr (hc 5 _ rfl (pr hp 0 rfl rfl)) 0 rfl rfl)
        have e9 : S 9 = false := (not_yet (j := 9) (q := 1) hc hk rfl rfl rfl rfl)
        refine eq_H (H' := [.obj true 0 0 (mrep z18 (Rep.str) (Rep.int .i64)) z20.kinds, .obj true 0 0 (mrep z19 (T_store_place_rep) (T_api_Value_rep)) z20.set, .obj true z16 z17 (.dat (T_store_Store_repo z18 z19)) z20, .gone, .gone, .obj true z4 z5 (.dat (T_store_Store_repo z40α.1.1 z40α.1.2)) z42.2.2, .obj true z13 0 (.dat T_ref05_State_rep) z9.1, .obj true 0 0 (mrep (z40α.1.1) (Rep.str) (Rep.int .i64)) z42.2.2.kinds, .obj true 0 0 (mrep (z40α.1.2) (T_store_place_rep) (T_api_Value_rep)) z42.2.2.set, (cond (S 8) (.obj true (z40α.2) 0 (.dat T_ref05_State_rep) T_ref05_State_zero) (.gone))]) (by first | exact hB z40α S true (S 8) false e4 rfl e9 | (have q := hB z40α S true (S 8) false e4 rfl e9; simp only [cond_true, cond_false] at q; exact q)) ?_
        refine o_fst rfl rfl guard_none (look_d rfl rfl (pr hp 0 rfl rfl)) (fun _ => rfl) ?_
        apply h_endA (α := z40α) (z40α.1, z40α.2)
        · exact (.same (.same (.same (.same (.same (.same (.same (.same (.same (.same (.same .nil)))))))))))
        · exact rfl
        · exact rfl
        · exact rfl
        · exact hB (z40α.1, z40α.2) (fun k => S k || Nat.beq k 6) true (S 8) false (or_t e4) (or_ne rfl) (or_f e9 rfl)
      · intro z40α S hc hk hp
        have e4 : S 4 = true := (pr (hc 5 _ rfl (pr hp 0 rfl rfl)) 0 rfl rfl)
        refine eq_H (H' := [.obj true 0 0 (mrep z18 (Rep.str) (Rep.int .i64)) z20.kinds, .obj true 0 0 (mrep z19 (T_store_place_rep) (T_api_Value_rep)) z20.set, .obj true z16 z17 (.dat (T_store_Store_repo z18 z19)) z20, .gone, .gone, .obj true z4 z5 (.dat (T_store_Store_repo z40α.1.1 z40α.1.2)) z42.2.2, .obj true z13 0 (.dat T_ref05_State_rep) z9.1, .obj true 0 0 (mrep (z40α.1.1) (Rep.str) (Rep.int .i64)) z42.2.2.kinds, .obj true 0 0 (mrep (z40α.1.2) (T_store_place_rep) (T_api_Value_rep)) z42.2.2.set, (cond (S 9) (.obj true (z40α.2) 0 (.dat T_ref05_State_rep) z42.1) ((cond (S 8) (.obj true (z40α.2) 0 (.dat T_ref05_State_rep) T_ref05_State_zero) (.gone))))]) (by first | exact hB z40α S true (S 8) (S 9) e4 rfl rfl | (have q := hB z40α S true (S 8) (S 9) e4 rfl rfl; simp only [cond_true, cond_false] at q; exact q)) ?_
        refine o_snd rfl rfl guard_none (look_d rfl rfl (pr hp 0 rfl rfl)) (fun _ => rfl) ?_
        apply h_endA (α := z40α) (z40α.1, z40α.2)
        · exact (.same (.same (.same (.same (.same (.same (.same (.same (.same (.same (.same .nil)))))))))))
        · exact rfl
        · exact rfl
        · exact rfl
        · exact hB (z40α.1, z40α.2) (fun k => S k || Nat.beq k 7) true (S 8) (S 9) (or_t e4) (or_ne rfl) (or_ne rfl)
      · intro z40α S hc hk hp
        have e9 : S 9 = false := (not_yet (j := 9) (q := 0) hc hk rfl rfl rfl rfl)
        refine eq_H (H' := [.obj true 0 0 (mrep z18 (Rep.str) (Rep.int .i64)) z20.kinds, .obj true 0 0 (mrep z19 (T_store_place_rep) (T_api_Value_rep)) z20.set, .obj true z16 z17 (.dat (T_store_Store_repo z18 z19)) z20, (cond (S 4) (.gone) (.obj true 0 0 (mrep z11 (Rep.str) (Rep.int .i64)) z9.2.2.kinds)), (cond (S 4) (.gone) (.obj true 0 0 (mrep z12 (T_store_place_rep) (T_api_Value_rep)) z9.2.2.set)), (cond (S 4) (.obj true z4 z5 (.dat (T_store_Store_repo z40α.1.1 z40α.1.2)) z42.2.2) (.obj true z4 z5 (.dat (T_store_Store_repo z11 z12)) z9.2.2)), .obj true z13 0 (.dat T_ref05_State_rep) z9.1, (cond (S 4) (.obj true 0 0 (mrep (z40α.1.1) (Rep.str) (Rep.int .i64)) z42.2.2.kinds) (.gone)), (cond (S 4) (.obj true 0 0 (mrep (z40α.1.2) (T_store_place_rep) (T_api_Value_rep)) z42.2.2.set) (.gone)), .gone]) (by first | exact hB z40α S (S 4) false false rfl hk e9 | (have q := hB z40α S (S 4) false false rfl hk e9; simp only [cond_true, cond_false] at q; exact q)) ?_
        refine o_alloc zero27 rfl rfl (fun z44 => ?_)
        refine o_weak (H' := [.obj true 0 0 (mrep z18 (Rep.str) (Rep.int .i64)) z20.kinds, .obj true 0 0 (mrep z19 (T_store_place_rep) (T_api_Value_rep)) z20.set, .obj true z16 z17 (.dat (T_store_Store_repo z18 z19)) z20, (cond (S 4) (.gone) (.obj true 0 0 (mrep z11 (Rep.str) (Rep.int .i64)) z9.2.2.kinds)), (cond (S 4) (.gone) (.obj true 0 0 (mrep z12 (T_store_place_rep) (T_api_Value_rep)) z9.2.2.set)), (cond (S 4) (.obj true z4 z5 (.dat (T_store_Store_repo z40α.1.1 z40α.1.2)) z42.2.2) (.obj true z4 z5 (.dat (T_store_Store_repo z11 z12)) z9.2.2)), .obj true z13 0 (.dat T_ref05_State_rep) z9.1, (cond (S 4) (.obj true 0 0 (mrep (z40α.1.1) (Rep.str) (Rep.int .i64)) z42.2.2.kinds) (.gone)), (cond (S 4) (.obj true 0 0 (mrep (z40α.1.2) (T_store_place_rep) (T_api_Value_rep)) z42.2.2.set) (.gone)), .obj true z44 0 (.dat T_ref05_State_rep) T_ref05_State_zero]) (sub_pick [1, 2, 3, 4, 5, 6, 7, 8, 9, 0] rfl rfl) ?_
        apply h_endA (α := z40α) (z40α.1, z44)
        · exact (.same (.same (.same (.same (.same (.same (.same (.same (.off hk (.same (.same .nil)))))))))))
        · exact rfl
        · exact rfl
        · exact rfl
        · exact hB (z40α.1, z44) (fun k => S k || Nat.beq k 8) (S 4) true false (or_ne rfl) (or_i rfl) (or_f e9 rfl)
      · intro z40α S hc hk hp
        have e4 : S 4 = true := (pr hp 2 rfl rfl)
        have e8 : S 8 = true := (pr hp 0 rfl rfl)
        refine eq_H (H' := [.obj true 0 0 (mrep z18 (Rep.str) (Rep.int .i64)) z20.kinds, .obj true 0 0 (mrep z19 (T_store_place_rep) (T_api_Value_rep)) z20.set, .obj true z16 z17 (.dat (T_store_Store_repo z18 z19)) z20, .gone, .gone, .obj true z4 z5 (.dat (T_store_Store_repo z40α.1.1 z40α.1.2)) z42.2.2, .obj true z13 0 (.dat T_ref05_State_rep) z9.1, .obj true 0 0 (mrep (z40α.1.1) (Rep.str) (Rep.int .i64)) z42.2.2.kinds, .obj true 0 0 (mrep (z40α.1.2) (T_store_place_rep) (T_api_Value_rep)) z42.2.2.set, .obj true (z40α.2) 0 (.dat T_ref05_State_rep) T_ref05_State_zero]) (by first | exact hB z40α S true true false e4 e8 hk | (have q := hB z40α S true true false e4 e8 hk; simp only [cond_true, cond_false] at q; exact q)) ?_
        refine o_weak (H' := [.obj true (z40α.2) 0 (.dat T_ref05_State_rep) T_ref05_State_zero, .obj true 0 0 (mrep z18 (Rep.str) (Rep.int .i64)) z20.kinds, .obj true 0 0 (mrep z19 (T_store_place_rep) (T_api_Value_rep)) z20.set, .obj true z16 z17 (.dat (T_store_Store_repo z18 z19)) z20, .gone, .gone, .obj true z4 z5 (.dat (T_store_Store_repo z40α.1.1 z40α.1.2)) z42.2.2, .obj true z13 0 (.dat T_ref05_State_rep) z9.1, .obj true 0 0 (mrep (z40α.1.1) (Rep.str) (Rep.int .i64)) z42.2.2.kinds, .obj true 0 0 (mrep (z40α.1.2) (T_store_place_rep) (T_api_Value_rep)) z42.2.2.set]) (sub_pick [9, 0, 1, 2, 3, 4, 5, 6, 7, 8] rfl rfl) ?_
        refine o_ostore type27 foc_self guard_none (look_d rfl rfl (pr hp 0 rfl rfl)) (fun _ => rfl) (look_d rfl rfl (pr hp 1 rfl rfl)) (fun _ => rfl) ?_
        refine o_weak (H' := [.obj true 0 0 (mrep z18 (Rep.str) (Rep.int .i64)) z20.kinds, .obj true 0 0 (mrep z19 (T_store_place_rep) (T_api_Value_rep)) z20.set, .obj true z16 z17 (.dat (T_store_Store_repo z18 z19)) z20, .gone, .gone, .obj true z4 z5 (.dat (T_store_Store_repo z40α.1.1 z40α.1.2)) z42.2.2, .obj true z13 0 (.dat T_ref05_State_rep) z9.1, .obj true 0 0 (mrep (z40α.1.1) (Rep.str) (Rep.int .i64)) z42.2.2.kinds, .obj true 0 0 (mrep (z40α.1.2) (T_store_place_rep) (T_api_Value_rep)) z42.2.2.set, .obj true (z40α.2) 0 (.dat T_ref05_State_rep) z42.1]) (sub_pick [1, 2, 3, 4, 5, 6, 7, 8, 9, 0] rfl rfl) ?_
        refine h_none (n := 81) (d := 90) rfl rfl ?_
        apply h_endA (α := z40α) (z40α.1, z40α.2)
        · exact (.same (.same (.same (.same (.same (.same (.same (.same (.same (.same (.same .nil)))))))))))
        · exact rfl
        · exact rfl
        · exact rfl
        · exact hB (z40α.1, z40α.2) (fun k => S k || Nat.beq k 9) true true true (or_t e4) (or_t e8) (or_i rfl)
      · intro z40α S hc hk hp
        have e4 : S 4 = true := (pr hp 6 rfl rfl)
        have e8 : S 8 = true := (pr hp 10 rfl rfl)
        have e9 : S 9 = true := (pr hp 1 rfl rfl)
        refine eq_H (H' := [.obj true 0 0 (mrep z18 (Rep.str) (Rep.int .i64)) z20.kinds, .obj true 0 0 (mrep z19 (T_store_place_rep) (T_api_Value_rep)) z20.set, .obj true z16 z17 (.dat (T_store_Store_repo z18 z19)) z20, .gone, .gone, .obj true z4 z5 (.dat (T_store_Store_repo z40α.1.1 z40α.1.2)) z42.2.2, .obj true z13 0 (.dat T_ref05_State_rep) z9.1, .obj true 0 0 (mrep (z40α.1.1) (Rep.str) (Rep.int .i64)) z42.2.2.kinds, .obj true 0 0 (mrep (z40α.1.2) (T_store_place_rep) (T_api_Value_rep)) z42.2.2.set, .obj true (z40α.2) 0 (.dat T_ref05_State_rep) z42.1]) (by first | exact hB z40α S true true true e4 e8 e9 | (have q := hB z40α S true true true e4 e8 e9; simp only [cond_true, cond_false] at q; exact q)) ?_
        refine o_assign rfl rfl guard_none (look_d rfl rfl (pr hp 0 rfl rfl)) (fun _ => rfl) ?_
        apply h_endA (α := z40α) (z40α.1, z40α.2)
        · exact (.same (.same (.same (.same (.same (.same (.same (.same (.same (.same (.same .nil)))))))))))
        · exact rfl
        · exact rfl
        · exact rfl
        · exact hB (z40α.1, z40α.2) (fun k => S k || Nat.beq k 10) true true true (or_t e4) (or_t e8) (or_t e9)
      refine den_weak (H' := [.obj true 0 0 (mrep z18 (Rep.str) (Rep.int .i64)) z20.kinds, .obj true 0 0 (mrep z19 (T_store_place_rep) (T_api_Value_rep)) z20.set, .obj true z16 z17 (.dat (T_store_Store_repo z18 z19)) z20, .obj true z4 z5 (.dat (T_store_Store_repo z40α.1.1 z40α.1.2)) z42.2.2, .obj true z13 0 (.dat T_ref05_State_rep) z9.1, .obj true 0 0 (mrep z40α.1.1 (Rep.str) (Rep.int .i64)) z42.2.2.kinds, .obj true 0 0 (mrep z40α.1.2 (T_store_place_rep) (T_api_Value_rep)) z42.2.2.set, .obj true z40α.2 0 (.dat T_ref05_State_rep) z42.1]) (sub_pick [0, 1, 2, 5, 6, 7, 8, 9] rfl rfl) ?_
      refine den_seq ?_
      refine den_open (fun z46 h_z46 => ?_)
      refine den_open (fun z47 h_z47 => ?_)
      have hB : ∀ (z45α : ((Value × Value) × Nat)) (S : Nat → Bool) (b4 b8 b9 : Bool), S 4 = b4 → S 8 = b8 → S 9 = b9 → (([(cond (S 4) (.gone) (.obj true 0 0 (mrep z18 (Rep.str) (Rep.int .i64)) z20.kinds)), (cond (S 4) (.gone) (.obj true 0 0 (mrep z19 (T_store_place_rep) (T_api_Value_rep)) z20.set)), (cond (S 4) (.obj true z16 z17 (.dat (T_store_Store_repo z45α.1.1 z45α.1.2)) z47.2.2) (.obj true z16 z17 (.dat (T_store_Store_repo z18 z19)) z20)), .obj true z4 z5 (.dat (T_store_Store_repo z40α.1.1 z40α.1.2)) z42.2.2, .obj true z13 0 (.dat T_ref05_State_rep) z9.1, .obj true 0 0 (mrep z40α.1.1 (Rep.str) (Rep.int .i64)) z42.2.2.kinds, .obj true 0 0 (mrep z40α.1.2 (T_store_place_rep) (T_api_Value_rep)) z42.2.2.set, .obj true z40α.2 0 (.dat T_ref05_State_rep) z42.1, (cond (S 4) (.obj true 0 0 (mrep (z45α.1.1) (Rep.str) (Rep.int .i64)) z47.2.2.kinds) (.gone)), (cond (S 4) (.obj true 0 0 (mrep (z45α.1.2) (T_store_place_rep) (T_api_Value_rep)) z47.2.2.set) (.gone)), (cond (S 9) (.obj true (z45α.2) 0 (.dat T_ref05_State_rep) z47.1) ((cond (S 8) (.obj true (z45α.2) 0 (.dat T_ref05_State_rep) T_ref05_State_zero) (.gone))))] : List Go.Eng.Item)) = ([(cond b4 (.gone) (.obj true 0 0 (mrep z18 (Rep.str) (Rep.int .i64)) z20.kinds)), (cond b4 (.gone) (.obj true 0 0 (mrep z19 (T_store_place_rep) (T_api_Value_rep)) z20.set)), (cond b4 (.obj true z16 z17 (.dat (T_store_Store_repo z45α.1.1 z45α.1.2)) z47.2.2) (.obj true z16 z17 (.dat (T_store_Store_repo z18 z19)) z20)), .obj true z4 z5 (.dat (T_store_Store_repo z40α.1.1 z40α.1.2)) z42.2.2, .obj true z13 0 (.dat T_ref05_State_rep) z9.1, .obj true 0 0 (mrep z40α.1.1 (Rep.str) (Rep.int .i64)) z42.2.2.kinds, .obj true 0 0 (mrep z40α.1.2 (T_store_place_rep) (T_api_Value_rep)) z42.2.2.set, .obj true z40α.2 0 (.dat T_ref05_State_rep) z42.1, (cond b4 (.obj true 0 0 (mrep (z45α.1.1) (Rep.str) (Rep.int .i64)) z47.2.2.kinds) (.gone)), (cond b4 (.obj true 0 0 (mrep (z45α.1.2) (T_store_place_rep) (T_api_Value_rep)) z47.2.2.set) (.gone)), (cond b9 (.obj true (z45α.2) 0 (.dat T_ref05_State_rep) z47.1) ((cond b8 (.obj true (z45α.2) 0 (.dat T_ref05_State_rep) T_ref05_State_zero) (.gone))))] : List Go.Eng.Item) := fun z45α S b4 b8 b9 h4 h8 h9 => by subst h4; subst h8; subst h9; rfl
      refine den_weak sub_gone ?_
      refine den_weak sub_gone ?_
      refine den_weak sub_gone ?_
      refine den_weak (sub_pick (H' := [.obj true 0 0 (mrep z18 (Rep.str) (Rep.int .i64)) z20.kinds, .obj true 0 0 (mrep z19 (T_store_place_rep) (T_api_Value_rep)) z20.set, .obj true z16 z17 (.dat (T_store_Store_repo z18 z19)) z20, .obj true z4 z5 (.dat (T_store_Store_repo z40α.1.1 z40α.1.2)) z42.2.2, .obj true z13 0 (.dat T_ref05_State_rep) z9.1, .obj true 0 0 (mrep z40α.1.1 (Rep.str) (Rep.int .i64)) z42.2.2.kinds, .obj true 0 0 (mrep z40α.1.2 (T_store_place_rep) (T_api_Value_rep)) z42.2.2.set, .obj true z40α.2 0 (.dat T_ref05_State_rep) z42.1, .gone, .gone, .gone]) [3, 4, 5, 6, 7, 8, 9, 10, 0, 1, 2] rfl rfl) ?_
      refine den_drawA (A := ((Value × Value) × Nat)) (H' := fun z45α => [.gone, .gone, .obj true z16 z17 (.dat (T_store_Store_repo z45α.1.1 z45α.1.2)) z47.2.2, .obj true z4 z5 (.dat (T_store_Store_repo z40α.1.1 z40α.1.2)) z42.2.2, .obj true z13 0 (.dat T_ref05_State_rep) z9.1, .obj true 0 0 (mrep z40α.1.1 (Rep.str) (Rep.int .i64)) z42.2.2.kinds, .obj true 0 0 (mrep z40α.1.2 (T_store_place_rep) (T_api_Value_rep)) z42.2.2.set, .obj true z40α.2 0 (.dat T_ref05_State_rep) z42.1, .obj true 0 0 (mrep (z45α.1.1) (Rep.str) (Rep.int .i64)) z47.2.2.kinds, .obj true 0 0 (mrep (z45α.1.2) (T_store_place_rep) (T_api_Value_rep)) z47.2.2.set, .obj true (z45α.2) 0 (.dat T_ref05_State_rep) z47.1]) (fun z45α => [(45, ⟨Rep.addr, (z16, z17), true⟩), (46, ⟨T_ref05_State_rep, z9.1, true⟩), (47, ⟨(T_law05_Op_rep).slice, c_3, true⟩), (48, ⟨(T_law05_Op_rep).slice, z46, true⟩), (49, ⟨Rep.pair (T_ref05_State_rep) (Rep.bool), (z47.1, z47.2.1), true⟩), (44, ⟨Rep.pair (T_ref05_State_rep) (Rep.bool), (z47.1, z47.2.1), true⟩), (50, ⟨T_ref05_State_rep, z47.1, true⟩), (51, ⟨Rep.bool, z47.2.1, true⟩), (15, ⟨Rep.addr, (z45α.2, 0), true⟩), (90, ⟨.any, (), false⟩), (16, ⟨Rep.bool, z47.2.1, true⟩)]) (fun z45α S => [(cond (S 4) (.gone) (.obj true 0 0 (mrep z18 (Rep.str) (Rep.int .i64)) z20.kinds)), (cond (S 4) (.gone) (.obj true 0 0 (mrep z19 (T_store_place_rep) (T_api_Value_rep)) z20.set)), (cond (S 4) (.obj true z16 z17 (.dat (T_store_Store_repo z45α.1.1 z45α.1.2)) z47.2.2) (.obj true z16 z17 (.dat (T_store_Store_repo z18 z19)) z20)), .obj true z4 z5 (.dat (T_store_Store_repo z40α.1.1 z40α.1.2)) z42.2.2, .obj true z13 0 (.dat T_ref05_State_rep) z9.1, .obj true 0 0 (mrep z40α.1.1 (Rep.str) (Rep.int .i64)) z42.2.2.kinds, .obj true 0 0 (mrep z40α.1.2 (T_store_place_rep) (T_api_Value_rep)) z42.2.2.set, .obj true z40α.2 0 (.dat T_ref05_State_rep) z42.1, (cond (S 4) (.obj true 0 0 (mrep (z45α.1.1) (Rep.str) (Rep.int .i64)) z47.2.2.kinds) (.gone)), (cond (S 4) (.obj true 0 0 (mrep (z45α.1.2) (T_store_place_rep) (T_api_Value_rep)) z47.2.2.set) (.gone)), (cond (S 9) (.obj true (z45α.2) 0 (.dat T_ref05_State_rep) z47.1) ((cond (S 8) (.obj true (z45α.2) 0 (.dat T_ref05_State_rep) T_ref05_State_zero) (.gone))))]) (((Value.slice none 0 0), (Value.slice none 0 0)), 0) mixed (fun _ => rfl) rfl rfl (fun z45α S hS => hB z45α S true true true (hS 4 (by decide)) (hS 8 (by decide)) (hS 9 (by decide))) ⟨?_, ?_, ?_, ?_, ?_, ?_, ?_, ?_, ?_, ?_, ?_, trivial⟩ (fun z45α => ?_)
      · intro z45α S hc hk hp
        have e4 : S 4 = false := (not_yet (j := 4) (q := 0) hc hk rfl rfl rfl rfl)
        have e9 : S 9 = false := (not_yet (j := 9) (q := 3) hc hk rfl rfl rfl rfl)
        refine eq_H (H' := [.obj true 0 0 (mrep z18 (Rep.str) (Rep.int .i64)) z20.kinds, .obj true 0 0 (mrep z19 (T_store_place_rep) (T_api_Value_rep)) z20.set, .obj true z16 z17 (.dat (T_store_Store_repo z18 z19)) z20, .obj true z4 z5 (.dat (T_store_Store_repo z40α.1.1 z40α.1.2)) z42.2.2, .obj true z13 0 (.dat T_ref05_State_rep) z9.1, .obj true 0 0 (mrep z40α.1.1 (Rep.str) (Rep.int .i64)) z42.2.2.kinds, .obj true 0 0 (mrep z40α.1.2 (T_store_place_rep) (T_api_Value_rep)) z42.2.2.set, .obj true z40α.2 0 (.dat T_ref05_State_rep) z42.1, .gone, .gone, (cond (S 8) (.obj true (z45α.2) 0 (.dat T_ref05_State_rep) T_ref05_State_zero) (.gone))]) (by first | exact hB z45α S false (S 8) false e4 rfl e9 | (have q := hB z45α S false (S 8) false e4 rfl e9; simp only [cond_true, cond_false] at q; exact q)) ?_
        refine o_move rfl rfl guard_none (look_o rfl rfl) (fun _ => rfl) ?_
        apply h_endA (α := z45α) (z45α.1, z45α.2)
        · exact (.same (.same (.same (.same (.same (.same (.same (.same (.same (.same (.same .nil)))))))))))
        · exact rfl
        · exact rfl
        · exact rfl
        · exact hB (z45α.1, z45α.2) (fun k => S k || Nat.beq k 0) false (S 8) false (or_f e4 rfl) (or_ne rfl) (or_f e9 rfl)
      · intro z45α S hc hk hp
        have e4 : S 4 = false := (not_yet (j := 4) (q := 1) hc hk rfl rfl rfl rfl)
        have e9 : S 9 = false := (not_yet (j := 9) (q := 4) hc hk rfl rfl rfl rfl)
        refine eq_H (H' := [.obj true 0 0 (mrep z18 (Rep.str) (Rep.int .i64)) z20.kinds, .obj true 0 0 (mrep z19 (T_store_place_rep) (T_api_Value_rep)) z20.set, .obj true z16 z17 (.dat (T_store_Store_repo z18 z19)) z20, .obj true z4 z5 (.dat (T_store_Store_repo z40α.1.1 z40α.1.2)) z42.2.2, .obj true z13 0 (.dat T_ref05_State_rep) z9.1, .obj true 0 0 (mrep z40α.1.1 (Rep.str) (Rep.int .i64)) z42.2.2.kinds, .obj true 0 0 (mrep z40α.1.2 (T_store_place_rep) (T_api_Value_rep)) z42.2.2.set, .obj true z40α.2 0 (.dat T_ref05_State_rep) z42.1, .gone, .gone, (cond (S 8) (.obj true (z45α.2) 0 (.dat T_ref05_State_rep) T_ref05_State_zero) (.gone))]) (by first | exact hB z45α S false (S 8) false e4 rfl e9 | (have q := hB z45α S false (S 8) false e4 rfl e9; simp only [cond_true, cond_false] at q; exact q)) ?_
        refine o_oloadi 4 rfl type27 foc_self rfl guard_none (look_o rfl rfl) (fun _ => rfl) ?_
        apply h_endA (α := z45α) (z45α.1, z45α.2)
        · exact (.same (.same (.same (.same (.same (.same (.same (.same (.same (.same (.same .nil)))))))))))
        · exact rfl
        · exact rfl
        · exact rfl
        · exact hB (z45α.1, z45α.2) (fun k => S k || Nat.beq k 1) false (S 8) false (or_f e4 rfl) (or_ne rfl) (or_f e9 rfl)
      · intro z45α S hc hk hp
        have e4 : S 4 = false := (not_yet (j := 4) (q := 2) hc (not_yet (j := 3) (q := 0) hc hk rfl rfl rfl rfl) rfl rfl rfl rfl)
        have e9 : S 9 = false := (not_yet (j := 9) (q := 5) hc hk rfl rfl rfl rfl)
        refine eq_H (H' := [.obj true 0 0 (mrep z18 (Rep.str) (Rep.int .i64)) z20.kinds, .obj true 0 0 (mrep z19 (T_store_place_rep) (T_api_Value_rep)) z20.set, .obj true z16 z17 (.dat (T_store_Store_repo z18 z19)) z20, .obj true z4 z5 (.dat (T_store_Store_repo z40α.1.1 z40α.1.2)) z42.2.2, .obj true z13 0 (.dat T_ref05_State_rep) z9.1, .obj true 0 0 (mrep z40α.1.1 (Rep.str) (Rep.int .i64)) z42.2.2.kinds, .obj true 0 0 (mrep z40α.1.2 (T_store_place_rep) (T_api_Value_rep)) z42.2.2.set, .obj true z40α.2 0 (.dat T_ref05_State_rep) z42.1, .gone, .gone, (cond (S 8) (.obj true (z45α.2) 0 (.dat T_ref05_State_rep) T_ref05_State_zero) (.gone))]) (by first | exact hB z45α S false (S 8) false e4 rfl e9 | (have q := hB z45α S false (S 8) false e4 rfl e9; simp only [cond_true, cond_false] at q; exact q)) ?_
        refine o_move rfl rfl guard_none (look_o rfl rfl) (fun _ => rfl) ?_
        apply h_endA (α := z45α) (z45α.1, z45α.2)
        · exact (.same (.same (.same (.same (.same (.same (.same (.same (.same (.same (.same .nil)))))))))))
        · exact rfl
        · exact rfl
        · exact rfl
        · exact hB (z45α.1, z45α.2) (fun k => S k || Nat.beq k 2) false (S 8) false (or_f e4 rfl) (or_ne rfl) (or_f e9 rfl)
      · intro z45α S hc hk hp
        have e4 : S 4 = false := (not_yet (j := 4) (q := 2) hc hk rfl rfl rfl rfl)
        have e9 : S 9 = false := (not_yet (j := 9) (q := 6) hc hk rfl rfl rfl rfl)
        refine eq_H (H' := [.obj true 0 0 (mrep z18 (Rep.str) (Rep.int .i64)) z20.kinds, .obj true 0 0 (mrep z19 (T_store_place_rep) (T_api_Value_rep)) z20.set, .obj true z16 z17 (.dat (T_store_Store_repo z18 z19)) z20, .obj true z4 z5 (.dat (T_store_Store_repo z40α.1.1 z40α.1.2)) z42.2.2, .obj true z13 0 (.dat T_ref05_State_rep) z9.1, .obj true 0 0 (mrep z40α.1.1 (Rep.str) (Rep.int .i64)) z42.2.2.kinds, .obj true 0 0 (mrep z40α.1.2 (T_store_place_rep) (T_api_Value_rep)) z42.2.2.set, .obj true z40α.2 0 (.dat T_ref05_State_rep) z42.1, .gone, .gone, (cond (S 8) (.obj true (z45α.2) 0 (.dat T_ref05_State_rep) T_ref05_State_zero) (.gone))]) (by first | exact hB z45α S false (S 8) false e4 rfl e9 | (have q := hB z45α S false (S 8) false e4 rfl e9; simp only [cond_true, cond_false] at q; exact q)) ?_
        refine o_from (bind_eqO h_z46) ?_
        refine o_call rfl rfl rfl callable18 (looks_cons (look_d rfl rfl (pr hp 0 rfl rfl)) (fun _ => rfl) (looks_nil)) (law05_few_ok _) (o_eqO ?_)
        apply h_endA (α := z45α) (z45α.1, z45α.2)
        · exact (.same (.same (.same (.same (.same (.same (.same (.same (.same (.same (.same .nil)))))))))))
        · exact rfl
        · exact rfl
        · exact rfl
        · exact hB (z45α.1, z45α.2) (fun k => S k || Nat.beq k 3) false (S 8) false (or_f e4 rfl) (or_ne rfl) (or_f e9 rfl)
      · intro z45α S hc hk hp
        have e9 : S 9 = false := (not_yet (j := 9) (q := 2) hc hk rfl rfl rfl rfl)
        refine eq_H (H' := [.obj true 0 0 (mrep z18 (Rep.str) (Rep.int .i64)) z20.kinds, .obj true 0 0 (mrep z19 (T_store_place_rep) (T_api_Value_rep)) z20.set, .obj true z16 z17 (.dat (T_store_Store_repo z18 z19)) z20, .obj true z4 z5 (.dat (T_store_Store_repo z40α.1.1 z40α.1.2)) z42.2.2, .obj true z13 0 (.dat T_ref05_State_rep) z9.1, .obj true 0 0 (mrep z40α.1.1 (Rep.str) (Rep.int .i64)) z42.2.2.kinds, .obj true 0 0 (mrep z40α.1.2 (T_store_place_rep) (T_api_Value_rep)) z42.2.2.set, .obj true z40α.2 0 (.dat T_ref05_State_rep) z42.1, .gone, .gone, (cond (S 8) (.obj true (z45α.2) 0 (.dat T_ref05_State_rep) T_ref05_State_zero) (.gone))]) (by first | exact hB z45α S false (S 8) false hk rfl e9 | (have q := hB z45α S false (S 8) false hk rfl e9; simp only [cond_true, cond_false] at q; exact q)) ?_
        refine o_from (bind_eqO h_z47) ?_
        refine o_weak (H' := [.obj true 0 0 (mrep z18 (Rep.str) (Rep.int .i64)) z20.kinds, .obj true 0 0 (mrep z19 (T_store_place_rep) (T_api_Value_rep)) z20.set, .obj true z16 z17 (.dat (T_store_Store_repo z18 z19)) z20] ++ ([] ++ [.obj true z4 z5 (.dat (T_store_Store_repo z40α.1.1 z40α.1.2)) z42.2.2, .obj true z13 0 (.dat T_ref05_State_rep) z9.1, .obj true 0 0 (mrep z40α.1.1 (Rep.str) (Rep.int .i64)) z42.2.2.kinds, .obj true 0 0 (mrep z40α.1.2 (T_store_place_rep) (T_api_Value_rep)) z42.2.2.set, .obj true z40α.2 0 (.dat T_ref05_State_rep) z42.1, .gone, .gone, (cond (S 8) (.obj true (z45α.2) 0 (.dat T_ref05_State_rep) T_ref05_State_zero) (.gone))])) (sub_pick [0, 1, 2, 3, 4, 5, 6, 7, 8, 9, 10] rfl rfl) ?_
        refine o_callU rfl rfl rfl rfl rfl callable16 (looks_cons (look_d rfl rfl (pr hp 0 rfl rfl)) (fun _ => rfl) (looks_cons (look_d rfl rfl (pr hp 1 rfl rfl)) (fun _ => rfl) (looks_cons (look_d rfl rfl (pr hp 2 rfl rfl)) (fun _ => rfl) (looks_nil)))) .nil (law05_run_ok _ _ _ _ z20 z9.1 z46) (fun _ _ => (wr_c (wr_c (wr_c wr_n)))) (fun z48α => o_eqOH ?_)
        refine o_weak (H' := [.obj true 0 0 (mrep z48α.1 (Rep.str) (Rep.int .i64)) z47.2.2.kinds, .obj true 0 0 (mrep z48α.2 (T_store_place_rep) (T_api_Value_rep)) z47.2.2.set, .obj true z16 z17 (.dat (T_store_Store_repo z48α.1 z48α.2)) z47.2.2, .obj true z4 z5 (.dat (T_store_Store_repo z40α.1.1 z40α.1.2)) z42.2.2, .obj true z13 0 (.dat T_ref05_State_rep) z9.1, .obj true 0 0 (mrep z40α.1.1 (Rep.str) (Rep.int .i64)) z42.2.2.kinds, .obj true 0 0 (mrep z40α.1.2 (T_store_place_rep) (T_api_Value_rep)) z42.2.2.set, .obj true z40α.2 0 (.dat T_ref05_State_rep) z42.1, .gone, .gone, (cond (S 8) (.obj true (z45α.2) 0 (.dat T_ref05_State_rep) T_ref05_State_zero) (.gone))]) (sub_pick [0, 1, 2, 3, 4, 5, 6, 7, 8, 9, 10] rfl rfl) ?_
        refine o_weak sub_gone ?_
        refine o_weak sub_gone ?_
        refine o_weak (H' := [.gone, .gone, .obj true z16 z17 (.dat (T_store_Store_repo z48α.1 z48α.2)) z47.2.2, .obj true z4 z5 (.dat (T_store_Store_repo z40α.1.1 z40α.1.2)) z42.2.2, .obj true z13 0 (.dat T_ref05_State_rep) z9.1, .obj true 0 0 (mrep z40α.1.1 (Rep.str) (Rep.int .i64)) z42.2.2.kinds, .obj true 0 0 (mrep z40α.1.2 (T_store_place_rep) (T_api_Value_rep)) z42.2.2.set, .obj true z40α.2 0 (.dat T_ref05_State_rep) z42.1, .obj true 0 0 (mrep z48α.1 (Rep.str) (Rep.int .i64)) z47.2.2.kinds, .obj true 0 0 (mrep z48α.2 (T_store_place_rep) (T_api_Value_rep)) z47.2.2.set, (cond (S 8) (.obj true (z45α.2) 0 (.dat T_ref05_State_rep) T_ref05_State_zero) (.gone))]) (sub_pick [1, 0, 4, 5, 6, 7, 8, 9, 2, 3, 12] rfl rfl) ?_
        apply h_endA (α := z45α) (z48α, z45α.2)
        · exact (.same (.same (.same (.same (.same (.same (.same (.same (.same (.same (.same .nil)))))))))))
        · exact rfl
        · exact rfl
        · exact rfl
        · exact hB (z48α, z45α.2) (fun k => S k || Nat.beq k 4) true (S 8) false (or_i rfl) (or_ne rfl) (or_f e9 rfl)
      · intro z45α S hc hk hp
        have e4 : S 4 = true := (pr hp 0 rfl rfl)
        have e9 : S 9 = false := (not_yet (j := 9) (q := 8) hc hk rfl rfl rfl rfl)
        refine eq_H (H' := [.gone, .gone, .obj true z16 z17 (.dat (T_store_Store_repo z45α.1.1 z45α.1.2)) z47.2.2, .obj true z4 z5 (.dat (T_store_Store_repo z40α.1.1 z40α.1.2)) z42.2.2, .obj true z13 0 (.dat T_ref05_State_rep) z9.1, .obj true 0 0 (mrep z40α.1.1 (Rep.str) (Rep.int .i64)) z42.2.2.kinds, .obj true 0 0 (mrep z40α.1.2 (T_store_place_rep) (T_api_Value_rep)) z42.2.2.set, .obj true z40α.2 0 (.dat T_ref05_State_rep) z42.1, .obj true 0 0 (mrep (z45α.1.1) (Rep.str) (Rep.int .i64)) z47.2.2.kinds, .obj true 0 0 (mrep (z45α.1.2) (T_store_place_rep) (T_api_Value_rep)) z47.2.2.set, (cond (S 8) (.obj true (z45α.2) 0 (.dat T_ref05_State_rep) T_ref05_State_zero) (.gone))]) (by first | exact hB z45α S true (S 8) false e4 rfl e9 | (have q := hB z45α S true (S 8) false e4 rfl e9; simp only [cond_true, cond_false] at q; exact q)) ?_
        refine o_move rfl rfl guard_none (look_d rfl rfl (pr hp 0 rfl rfl)) (fun _ => rfl) ?_
        apply h_endA (α := z45α) (z45α.1, z45α.2)
        · exact (.same (.same (.same (.same (.same (.same (.same (.same (.same (.same (.same .nil)))))))))))
        · exact rfl
        · exact rfl
        · exact rfl
        · exact hB (z45α.1, z45α.2) (fun k => S k || Nat.beq k 5) true (S 8) false (or_t e4) (or_ne rfl) (or_f e9 rfl)
      · intro z45α S hc hk hp
        have e4 : S 4 = true := (pr (hc 5 _ rfl (pr hp 0 rfl rfl)) 0 rfl rfl)
        have e9 : S 9 = false := (not_yet (j := 9) (q := 1) hc hk rfl rfl rfl rfl)
        refine eq_H (H' := [.gone, .gone, .obj true z16 z17 (.dat (T_store_Store_repo z45α.1.1 z45α.1.2)) z47.2.2, .obj true z4 z5 (.dat (T_store_Store_repo z40α.1.1 z40α.1.2)) z42.2.2, .obj true z13 0 (.dat T_ref05_State_rep) z9.1, .obj true 0 0 (mrep z40α.1.1 (Rep.str) (Rep.int .i64)) z42.2.2.kinds, .obj true 0 0 (mrep z40α.1.2 (T_store_place_rep) (T_api_Value_rep)) z42.2.2.set, .obj true z40α.2 0 (.dat T_ref05_State_rep) z42.1, .obj true 0 0 (mrep (z45α.1.1) (Rep.str) (Rep.int .i64)) z47.2.2.kinds, .obj true 0 0 (mrep (z45α.1.2) (T_store_place_rep) (T_api_Value_rep)) z47.2.2.set, (cond (S 8) (.obj true (z45α.2) 0 (.dat T_ref05_State_rep) T_ref05_State_zero) (.gone))]) (by first | exact hB z45α S true (S 8) false e4 rfl e9 | (have q := hB z45α S true (S 8) false e4 rfl e9; simp only [cond_true, cond_false] at q; exact q)) ?_
        refine o_fst rfl rfl guard_none (look_d rfl rfl (pr hp 0 rfl rfl)) (fun _ => rfl) ?_
        apply h_endA (α := z45α) (z45α.1, z45α.2)
        · exact (.same (.same (.same (.same (.same (.same (.same (.same (.same (.same (.same .nil)))))))))))
        · exact rfl
        · exact rfl
        · exact rfl
        · exact hB (z45α.1, z45α.2) (fun k => S k || Nat.beq k 6) true (S 8) false (or_t e4) (or_ne rfl) (or_f e9 rfl)
      · intro z45α S hc hk hp
        have e4 : S 4 = true := (pr (hc 5 _ rfl (pr hp 0 rfl rfl)) 0 rfl rfl)
        refine eq_H (H' := [.gone, .gone, .obj true z16 z17 (.dat (T_store_Store_repo z45α.1.1 z45α.1.2)) z47.2.2, .obj true z4 z5 (.dat (T_store_Store_repo z40α.1.1 z40α.1.2)) z42.2.2, .obj true z13 0 (.dat T_ref05_State_rep) z9.1, .obj true 0 0 (mrep z40α.1.1 (Rep.str) (Rep.int .i64)) z42.2.2.kinds, .obj true 0 0 (mrep z40α.1.2 (T_store_place_rep) (T_api_Value_rep)) z42.2.2.set, .obj true z40α.2 0 (.dat T_ref05_State_rep) z42.1, .obj true 0 0 (mrep (z45α.1.1) (Rep.str) (Rep.int .i64)) z47.2.2.kinds, .obj true 0 0 (mrep (z45α.1.2) (T_store_place_rep) (T_api_Value_rep)) z47.2.2.set, (cond (S 9) (.obj true (z45α.2) 0 (.dat T_ref05_State_rep) z47.1) ((cond (S 8) (.obj true (z45α.2) 0 (.dat T_ref05_State_rep) T_ref05_State_zero) (.gone))))]) (by first | exact hB z45α S true (S 8) (S 9) e4 rfl rfl | (have q := hB z45α S true (S 8) (S 9) e4 rfl rfl; simp only [cond_true, cond_false] at q; exact q)) ?_
        refine o_snd rfl rfl guard_none (look_d rfl rfl (pr hp 0 rfl rfl)) (fun _ => rfl) ?_
        apply h_endA (α := z45α) (z45α.1, z45α.2)
        · exact (.same (.same (.same (.same (.same (.same (.same (.same (.same (.same (.same .nil)))))))))))
        · exact rfl
        · exact rfl
        · exact rfl
        · exact hB (z45α.1, z45α.2) (fun k => S k || Nat.beq k 7) true (S 8) (S 9) (or_t e4) (or_ne rfl) (or_ne rfl)
      · intro z45α S hc hk hp
        have e9 : S 9 = false := (not_yet (j := 9) (q := 0) hc hk rfl rfl rfl rfl)
        refine eq_H (H' := [(cond (S 4) (.gone) (.obj true 0 0 (mrep z18 (Rep.str) (Rep.int .i64)) z20.kinds)), (cond (S 4) (.gone) (.obj true 0 0 (mrep z19 (T_store_place_rep) (T_api_Value_rep)) z20.set)), (cond (S 4) (.obj true z16 z17 (.dat (T_store_Store_repo z45α.1.1 z45α.1.2)) z47.2.2) (.obj true z16 z17 (.dat (T_store_Store_repo z18 z19)) z20)), .obj true z4 z5 (.dat (T_store_Store_repo z40α.1.1 z40α.1.2)) z42.2.2, .obj true z13 0 (.dat T_ref05_State_rep) z9.1, .obj true 0 0 (mrep z40α.1.1 (Rep.str) (Rep.int .i64)) z42.2.2.kinds, .obj true 0 0 (mrep z40α.1.2 (T_store_place_rep) (T_api_Value_rep)) z42.2.2.set, .obj true z40α.2 0 (.dat T_ref05_State_rep) z42.1, (cond (S 4) (.obj true 0 0 (mrep (z45α.1.1) (Rep.str) (Rep.int .i64)) z47.2.2.kinds) (.gone)), (cond (S 4) (.obj true 0 0 (mrep (z45α.1.2) (T_store_place_rep) (T_api_Value_rep)) z47.2.2.set) (.gone)), .gone]) (by first | exact hB z45α S (S 4) false false rfl hk e9 | (have q := hB z45α S (S 4) false false rfl hk e9; simp only [cond_true, cond_false] at q; exact q)) ?_
        refine o_alloc zero27 rfl rfl (fun z49 => ?_)
        refine o_weak (H' := [(cond (S 4) (.gone) (.obj true 0 0 (mrep z18 (Rep.str) (Rep.int .i64)) z20.kinds)), (cond (S 4) (.gone) (.obj true 0 0 (mrep z19 (T_store_place_rep) (T_api_Value_rep)) z20.set)), (cond (S 4) (.obj true z16 z17 (.dat (T_store_Store_repo z45α.1.1 z45α.1.2)) z47.2.2) (.obj true z16 z17 (.dat (T_store_Store_repo z18 z19)) z20)), .obj true z4 z5 (.dat (T_store_Store_repo z40α.1.1 z40α.1.2)) z42.2.2, .obj true z13 0 (.dat T_ref05_State_rep) z9.1, .obj true 0 0 (mrep z40α.1.1 (Rep.str) (Rep.int .i64)) z42.2.2.kinds, .obj true 0 0 (mrep z40α.1.2 (T_store_place_rep) (T_api_Value_rep)) z42.2.2.set, .obj true z40α.2 0 (.dat T_ref05_State_rep) z42.1, (cond (S 4) (.obj true 0 0 (mrep (z45α.1.1) (Rep.str) (Rep.int .i64)) z47.2.2.kinds) (.gone)), (cond (S 4) (.obj true 0 0 (mrep (z45α.1.2) (T_store_place_rep) (T_api_Value_rep)) z47.2.2.set) (.gone)), .obj true z49 0 (.dat T_ref05_State_rep) T_ref05_State_zero]) (sub_pick [1, 2, 3, 4, 5, 6, 7, 8, 9, 10, 0] rfl rfl) ?_
        apply h_endA (α := z45α) (z45α.1, z49)
        · exact (.same (.same (.same (.same (.same (.same (.same (.same (.off hk (.same (.same .nil)))))))))))
        · exact rfl
        · exact rfl
        · exact rfl
        · exact hB (z45α.1, z49) (fun k => S k || Nat.beq k 8) (S 4) true false (or_ne rfl) (or_i rfl) (or_f e9 rfl)
      · intro z45α S hc hk hp
        have e4 : S 4 = true := (pr hp 2 rfl rfl)
        have e8 : S 8 = true := (pr hp 0 rfl rfl)
        refine eq_H (H' := [.gone, .gone, .obj true z16 z17 (.dat (T_store_Store_repo z45α.1.1 z45α.1.2)) z47.2.2, .obj true z4 z5 (.dat (T_store_Store_repo z40α.1.1 z40α.1.2)) z42.2.2, .obj true z13 0 (.dat T_ref05_State_rep) z9.1, .obj true 0 0 (mrep z40α.1.1 (Rep.str) (Rep.int .i64)) z42.2.2.kinds, .obj true 0 0 (mrep z40α.1.2 (T_store_place_rep) (T_api_Value_rep)) z42.2.2.set, .obj true z40α.2 0 (.dat T_ref05_State_rep) z42.1, .obj true 0 0 (mrep (z45α.1.1) (Rep.str) (Rep.int .i64)) z47.2.2.kinds, .obj true 0 0 (mrep (z45α.1.2) (T_store_place_rep) (T_api_Value_rep)) z47.2.2.set, .obj true (z45α.2) 0 (.dat T_ref05_State_rep) T_ref05_State_zero]) (by first | exact hB z45α S true true false e4 e8 hk | (have q := hB z45α S true true false e4 e8 hk; simp only [cond_true, cond_false] at q; exact q)) ?_
        refine o_weak (H' := [.obj true (z45α.2) 0 (.dat T_ref05_State_rep) T_ref05_State_zero, .gone, .gone, .obj true z16 z17 (.dat (T_store_Store_repo z45α.1.1 z45α.1.2)) z47.2.2, .obj true z4 z5 (.dat (T_store_Store_repo z40α.1.1 z40α.1.2)) z42.2.2, .obj true z13 0 (.dat T_ref05_State_rep) z9.1, .obj true 0 0 (mrep z40α.1.1 (Rep.str) (Rep.int .i64)) z42.2.2.kinds, .obj true 0 0 (mrep z40α.1.2 (T_store_place_rep) (T_api_Value_rep)) z42.2.2.set, .obj true z40α.2 0 (.dat T_ref05_State_rep) z42.1, .obj true 0 0 (mrep (z45α.1.1) (Rep.str) (Rep.int .i64)) z47.2.2.kinds, .obj true 0 0 (mrep (z45α.1.2) (T_store_place_rep) (T_api_Value_rep)) z47.2.2.set]) (sub_pick [10, 0, 1, 2, 3, 4, 5, 6, 7, 8, 9] rfl rfl) ?_
        refine o_ostore type27 foc_self guard_none (look_d rfl rfl (pr hp 0 rfl rfl)) (fun _ => rfl) (look_d rfl rfl (pr hp 1 rfl rfl)) (fun _ => rfl) ?_
        refine o_weak (H' := [.gone, .gone, .obj true z16 z17 (.dat (T_store_Store_repo z45α.1.1 z45α.1.2)) z47.2.2, .obj true z4 z5 (.dat (T_store_Store_repo z40α.1.1 z40α.1.2)) z42.2.2, .obj true z13 0 (.dat T_ref05_State_rep) z9.1, .obj true 0 0 (mrep z40α.1.1 (Rep.str) (Rep.int .i64)) z42.2.2.kinds, .obj true 0 0 (mrep z40α.1.2 (T_store_place_rep) (T_api_Value_rep)) z42.2.2.set, .obj true z40α.2 0 (.dat T_ref05_State_rep) z42.1, .obj true 0 0 (mrep (z45α.1.1) (Rep.str) (Rep.int .i64)) z47.2.2.kinds, .obj true 0 0 (mrep (z45α.1.2) (T_store_place_rep) (T_api_Value_rep)) z47.2.2.set, .obj true (z45α.2) 0 (.dat T_ref05_State_rep) z47.1]) (sub_pick [1, 2, 3, 4, 5, 6, 7, 8, 9, 10, 0] rfl rfl) ?_
        refine h_none (n := 81) (d := 90) rfl rfl ?_
        apply h_endA (α := z45α) (z45α.1, z45α.2)
        · exact (.same (.same (.same (.same (.same (.same (.same (.same (.same (.same (.same .nil)))))))))))
        · exact rfl
        · exact rfl
        · exact rfl
        · exact hB (z45α.1, z45α.2) (fun k => S k || Nat.beq k 9) true true true (or_t e4) (or_t e8) (or_i rfl)
      · intro z45α S hc hk hp
        have e4 : S 4 = true := (pr hp 6 rfl rfl)
        have e8 : S 8 = true := (pr hp 10 rfl rfl)
        have e9 : S 9 = true := (pr hp 1 rfl rfl)
        refine eq_H (H' := [.gone, .gone, .obj true z16 z17 (.dat (T_store_Store_repo z45α.1.1 z45α.1.2)) z47.2.2, .obj true z4 z5 (.dat (T_store_Store_repo z40α.1.1 z40α.1.2)) z42.2.2, .obj true z13 0 (.dat T_ref05_State_rep) z9.1, .obj true 0 0 (mrep z40α.1.1 (Rep.str) (Rep.int .i64)) z42.2.2.kinds, .obj true 0 0 (mrep z40α.1.2 (T_store_place_rep) (T_api_Value_rep)) z42.2.2.set, .obj true z40α.2 0 (.dat T_ref05_State_rep) z42.1, .obj true 0 0 (mrep (z45α.1.1) (Rep.str) (Rep.int .i64)) z47.2.2.kinds, .obj true 0 0 (mrep (z45α.1.2) (T_store_place_rep) (T_api_Value_rep)) z47.2.2.set, .obj true (z45α.2) 0 (.dat T_ref05_State_rep) z47.1]) (by first | exact hB z45α S true true true e4 e8 e9 | (have q := hB z45α S true true true e4 e8 e9; simp only [cond_true, cond_false] at q; exact q)) ?_
        refine o_assign rfl rfl guard_none (look_d rfl rfl (pr hp 0 rfl rfl)) (fun _ => rfl) ?_
        apply h_endA (α := z45α) (z45α.1, z45α.2)
        · exact (.same (.same (.same (.same (.same (.same (.same (.same (.same (.same (.same .nil)))))))))))
        · exact rfl
        · exact rfl
        · exact rfl
        · exact hB (z45α.1, z45α.2) (fun k => S k || Nat.beq k 10) true true true (or_t e4) (or_t e8) (or_t e9)
      refine den_weak (H' := [.obj true z16 z17 (.dat (T_store_Store_repo z45α.1.1 z45α.1.2)) z47.2.2, .obj true z4 z5 (.dat (T_store_Store_repo z40α.1.1 z40α.1.2)) z42.2.2, .obj true z13 0 (.dat T_ref05_State_rep) z9.1, .obj true 0 0 (mrep z40α.1.1 (Rep.str) (Rep.int .i64)) z42.2.2.kinds, .obj true 0 0 (mrep z40α.1.2 (T_store_place_rep) (T_api_Value_rep)) z42.2.2.set, .obj true z40α.2 0 (.dat T_ref05_State_rep) z42.1, .obj true 0 0 (mrep z45α.1.1 (Rep.str) (Rep.int .i64)) z47.2.2.kinds, .obj true 0 0 (mrep z45α.1.2 (T_store_place_rep) (T_api_Value_rep)) z47.2.2.set, .obj true z45α.2 0 (.dat T_ref05_State_rep) z47.1]) (sub_pick [2, 3, 4, 5, 6, 7, 8, 9, 10] rfl rfl) ?_
      refine den_seq ?_
      refine den_open (fun z51 h_z51 => ?_)
      refine den_open (fun z52 h_z52 => ?_)
      have hB : ∀ (z50α : ((Value × Value) × Nat)) (S : Nat → Bool) (b4 b8 b9 : Bool), S 4 = b4 → S 8 = b8 → S 9 = b9 → (([.obj true z16 z17 (.dat (T_store_Store_repo z45α.1.1 z45α.1.2)) z47.2.2, (cond (S 4) (.obj true z4 z5 (.dat (T_store_Store_repo z50α.1.1 z50α.1.2)) z52.2.2) (.obj true z4 z5 (.dat (T_store_Store_repo z40α.1.1 z40α.1.2)) z42.2.2)), .obj true z13 0 (.dat T_ref05_State_rep) z9.1, (cond (S 4) (.gone) (.obj true 0 0 (mrep z40α.1.1 (Rep.str) (Rep.int .i64)) z42.2.2.kinds)), (cond (S 4) (.gone) (.obj true 0 0 (mrep z40α.1.2 (T_store_place_rep) (T_api_Value_rep)) z42.2.2.set)), .obj true z40α.2 0 (.dat T_ref05_State_rep) z42.1, .obj true 0 0 (mrep z45α.1.1 (Rep.str) (Rep.int .i64)) z47.2.2.kinds, .obj true 0 0 (mrep z45α.1.2 (T_store_place_rep) (T_api_Value_rep)) z47.2.2.set, .obj true z45α.2 0 (.dat T_ref05_State_rep) z47.1, (cond (S 4) (.obj true 0 0 (mrep (z50α.1.1) (Rep.str) (Rep.int .i64)) z52.2.2.kinds) (.gone)), (cond (S 4) (.obj true 0 0 (mrep (z50α.1.2) (T_store_place_rep) (T_api_Value_rep)) z52.2.2.set) (.gone)), (cond (S 9) (.obj true (z50α.2) 0 (.dat T_ref05_State_rep) z52.1) ((cond (S 8) (.obj true (z50α.2) 0 (.dat T_ref05_State_rep) T_ref05_State_zero) (.gone))))] : List Go.Eng.Item)) = ([.obj true z16 z17 (.dat (T_store_Store_repo z45α.1.1 z45α.1.2)) z47.2.2, (cond b4 (.obj true z4 z5 (.dat (T_store_Store_repo z50α.1.1 z50α.1.2)) z52.2.2) (.obj true z4 z5 (.dat (T_store_Store_repo z40α.1.1 z40α.1.2)) z42.2.2)), .obj true z13 0 (.dat T_ref05_State_rep) z9.1, (cond b4 (.gone) (.obj true 0 0 (mrep z40α.1.1 (Rep.str) (Rep.int .i64)) z42.2.2.kinds)), (cond b4 (.gone) (.obj true 0 0 (mrep z40α.1.2 (T_store_place_rep) (T_api_Value_rep)) z42.2.2.set)), .obj true z40α.2 0 (.dat T_ref05_State_rep) z42.1, .obj true 0 0 (mrep z45α.1.1 (Rep.str) (Rep.int .i64)) z47.2.2.kinds, .obj true 0 0 (mrep z45α.1.2 (T_store_place_rep) (T_api_Value_rep)) z47.2.2.set, .obj true z45α.2 0 (.dat T_ref05_State_rep) z47.1, (cond b4 (.obj true 0 0 (mrep (z50α.1.1) (Rep.str) (Rep.int .i64)) z52.2.2.kinds) (.gone)), (cond b4 (.obj true 0 0 (mrep (z50α.1.2) (T_store_place_rep) (T_api_Value_rep)) z52.2.2.set) (.gone)), (cond b9 (.obj true (z50α.2) 0 (.dat T_ref05_State_rep) z52.1) ((cond b8 (.obj true (z50α.2) 0 (.dat T_ref05_State_rep) T_ref05_State_zero) (.gone))))] : List Go.Eng.Item) := fun z50α S b4 b8 b9 h4 h8 h9 => by subst h4; subst h8; subst h9; rfl
      refine den_weak sub_gone ?_
      refine den_weak sub_gone ?_
      refine den_weak sub_gone ?_
      refine den_weak (sub_pick (H' := [.obj true z16 z17 (.dat (T_store_Store_repo z45α.1.1 z45α.1.2)) z47.2.2, .obj true z4 z5 (.dat (T_store_Store_repo z40α.1.1 z40α.1.2)) z42.2.2, .obj true z13 0 (.dat T_ref05_State_rep) z9.1, .obj true 0 0 (mrep z40α.1.1 (Rep.str) (Rep.int .i64)) z42.2.2.kinds, .obj true 0 0 (mrep z40α.1.2 (T_store_place_rep) (T_api_Value_rep)) z42.2.2.set, .obj true z40α.2 0 (.dat T_ref05_State_rep) z42.1, .obj true 0 0 (mrep z45α.1.1 (Rep.str) (Rep.int .i64)) z47.2.2.kinds, .obj true 0 0 (mrep z45α.1.2 (T_store_place_rep) (T_api_Value_rep)) z47.2.2.set, .obj true z45α.2 0 (.dat T_ref05_State_rep) z47.1, .gone, .gone, .gone]) [3, 4, 5, 6, 7, 8, 9, 10, 11, 0, 1, 2] rfl rfl) ?_
      refine den_drawA (A := ((Value × Value) × Nat)) (H' := fun z50α => [.obj true z16 z17 (.dat (T_store_Store_repo z45α.1.1 z45α.1.2)) z47.2.2, .obj true z4 z5 (.dat (T_store_Store_repo z50α.1.1 z50α.1.2)) z52.2.2, .obj true z13 0 (.dat T_ref05_State_rep) z9.1, .gone, .gone, .obj true z40α.2 0 (.dat T_ref05_State_rep) z42.1, .obj true 0 0 (mrep z45α.1.1 (Rep.str) (Rep.int .i64)) z47.2.2.kinds, .obj true 0 0 (mrep z45α.1.2 (T_store_place_rep) (T_api_Value_rep)) z47.2.2.set, .obj true z45α.2 0 (.dat T_ref05_State_rep) z47.1, .obj true 0 0 (mrep (z50α.1.1) (Rep.str) (Rep.int .i64)) z52.2.2.kinds, .obj true 0 0 (mrep (z50α.1.2) (T_store_place_rep) (T_api_Value_rep)) z52.2.2.set, .obj true (z50α.2) 0 (.dat T_ref05_State_rep) z52.1]) (fun z50α => [(53, ⟨Rep.addr, (z4, z5), true⟩), (54, ⟨T_ref05_State_rep, z42.1, true⟩), (55, ⟨(T_law05_Op_rep).slice, c_3, true⟩), (56, ⟨(T_law05_Op_rep).slice, z51, true⟩), (57, ⟨Rep.pair (T_ref05_State_rep) (Rep.bool), (z52.1, z52.2.1), true⟩), (52, ⟨Rep.pair (T_ref05_State_rep) (Rep.bool), (z52.1, z52.2.1), true⟩), (58, ⟨T_ref05_State_rep, z52.1, true⟩), (59, ⟨Rep.bool, z52.2.1, true⟩), (17, ⟨Rep.addr, (z50α.2, 0), true⟩), (90, ⟨.any, (), false⟩), (18, ⟨Rep.bool, z52.2.1, true⟩)]) (fun z50α S => [.obj true z16 z17 (.dat (T_store_Store_repo z45α.1.1 z45α.1.2)) z47.2.2, (cond (S 4) (.obj true z4 z5 (.dat (T_store_Store_repo z50α.1.1 z50α.1.2)) z52.2.2) (.obj true z4 z5 (.dat (T_store_Store_repo z40α.1.1 z40α.1.2)) z42.2.2)), .obj true z13 0 (.dat T_ref05_State_rep) z9.1, (cond (S 4) (.gone) (.obj true 0 0 (mrep z40α.1.1 (Rep.str) (Rep.int .i64)) z42.2.2.kinds)), (cond (S 4) (.gone) (.obj true 0 0 (mrep z40α.1.2 (T_store_place_rep) (T_api_Value_rep)) z42.2.2.set)), .obj true z40α.2 0 (.dat T_ref05_State_rep) z42.1, .obj true 0 0 (mrep z45α.1.1 (Rep.str) (Rep.int .i64)) z47.2.2.kinds, .obj true 0 0 (mrep z45α.1.2 (T_store_place_rep) (T_api_Value_rep)) z47.2.2.set, .obj true z45α.2 0 (.dat T_ref05_State_rep) z47.1, (cond (S 4) (.obj true 0 0 (mrep (z50α.1.1) (Rep.str) (Rep.int .i64)) z52.2.2.kinds) (.gone)), (cond (S 4) (.obj true 0 0 (mrep (z50α.1.2) (T_store_place_rep) (T_api_Value_rep)) z52.2.2.set) (.gone)), (cond (S 9) (.obj true (z50α.2) 0 (.dat T_ref05_State_rep) z52.1) ((cond (S 8) (.obj true (z50α.2) 0 (.dat T_ref05_State_rep) T_ref05_State_zero) (.gone))))]) (((Value.slice none 0 0), (Value.slice none 0 0)), 0) mixed (fun _ => rfl) rfl rfl (fun z50α S hS => hB z50α S true true true (hS 4 (by decide)) (hS 8 (by decide)) (hS 9 (by decide))) ⟨?_, ?_, ?_, ?_, ?_, ?_, ?_, ?_, ?_, ?_, ?_, trivial⟩ (fun z50α => ?_)
      · intro z50α S hc hk hp
        have e4 : S 4 = false := (not_yet (j := 4) (q := 0) hc hk rfl rfl rfl rfl)
        have e9 : S 9 = false := (not_yet (j := 9) (q := 3) hc hk rfl rfl rfl rfl)
        refine eq_H (H' := [.obj true z16 z17 (.dat (T_store_Store_repo z45α.1.1 z45α.1.2)) z47.2.2, .obj true z4 z5 (.dat (T_store_Store_repo z40α.1.1 z40α.1.2)) z42.2.2, .obj true z13 0 (.dat T_ref05_State_rep) z9.1, .obj true 0 0 (mrep z40α.1.1 (Rep.str) (Rep.int .i64)) z42.2.2.kinds, .obj true 0 0 (mrep z40α.1.2 (T_store_place_rep) (T_api_Value_rep)) z42.2.2.set, .obj true z40α.2 0 (.dat T_ref05_State_rep) z42.1, .obj true 0 0 (mrep z45α.1.1 (Rep.str) (Rep.int .i64)) z47.2.2.kinds, .obj true 0 0 (mrep z45α.1.2 (T_store_place_rep) (T_api_Value_rep)) z47.2.2.set, .obj true z45α.2 0 (.dat T_ref05_State_rep) z47.1, .gone, .gone, (cond (S 8) (.obj true (z50α.2) 0 (.dat T_ref05_State_rep) T_ref05_State_zero) (.gone))]) (by first | exact hB z50α S false (S 8) false e4 rfl e9 | (have q := hB z50α S false (S 8) false e4 rfl e9; simp only [cond_true, cond_false] at q; exact q)) ?_
        refine o_move rfl rfl guard_none (look_o rfl rfl) (fun _ => rfl) ?_
        apply h_endA (α := z50α) (z50α.1, z50α.2)
        · exact (.same (.same (.same (.same (.same (.same (.same (.same (.same (.same (.same .nil)))))))))))
        · exact rfl
        · exact rfl
        · exact rfl
        · exact hB (z50α.1, z50α.2) (fun k => S k || Nat.beq k 0) false (S 8) false (or_f e4 rfl) (or_ne rfl) (or_f e9 rfl)
      · intro z50α S hc hk hp
        have e4 : S 4 = false := (not_yet (j := 4) (q := 1) hc hk rfl rfl rfl rfl)
        have e9 : S 9 = false := (not_yet (j := 9) (q := 4) hc hk rfl rfl rfl rfl)
        refine eq_H (H' := [.obj true z16 z17 (.dat (T_store_Store_repo z45α.1.1 z45α.1.2)) z47.2.2, .obj true z4 z5 (.dat (T_store_Store_repo z40α.1.1 z40α.1.2)) z42.2.2, .obj true z13 0 (.dat T_ref05_State_rep) z9.1, .obj true 0 0 (mrep z40α.1.1 (Rep.str) (Rep.int .i64)) z42.2.2.kinds, .obj true 0 0 (mrep z40α.1.2 (T_store_place_rep) (T_api_Value_rep)) z42.2.2.set, .obj true z40α.2 0 (.dat T_ref05_State_rep) z42.1, .obj true 0 0 (mrep z45α.1.1 (Rep.str) (Rep.int .i64)) z47.2.2.kinds, .obj true 0 0 (mrep z45α.1.2 (T_store_place_rep) (T_api_Value_rep)) z47.2.2.set, .obj true z45α.2 0 (.dat T_ref05_State_rep) z47.1, .gone, .gone, (cond (S 8) (.obj true (z50α.2) 0 (.dat T_ref05_State_rep) T_ref05_State_zero) (.gone))]) (by first | exact hB z50α S false (S 8) false e4 rfl e9 | (have q := hB z50α S false (S 8) false e4 rfl e9; simp only [cond_true, cond_false] at q; exact q)) ?_
        refine o_oloadi 5 rfl type27 foc_self rfl guard_none (look_o rfl rfl) (fun _ => rfl) ?_
        apply h_endA (α := z50α) (z50α.1, z50α.2)
        · exact (.same (.same (.same (.same (.same (.same (.same (.same (.same (.same (.same .nil)))))))))))
        · exact rfl
        · exact rfl
        · exact rfl
        · exact hB (z50α.1, z50α.2) (fun k => S k || Nat.beq k 1) false (S 8) false (or_f e4 rfl) (or_ne rfl) (or_f e9 rfl)
      · intro z50α S hc hk hp
        have e4 : S 4 = false := (not_yet (j := 4) (q := 2) hc (not_yet (j := 3) (q := 0) hc hk rfl rfl rfl rfl) rfl rfl rfl rfl)
        have e9 : S 9 = false := (not_yet (j := 9) (q := 5) hc hk rfl rfl rfl rfl)
        refine eq_H (H' := [.obj true z16 z17 (.dat (T_store_Store_repo z45α.1.1 z45α.1.2)) z47.2.2, .obj true z4 z5 (.dat (T_store_Store_repo z40α.1.1 z40α.1.2)) z42.2.2, .obj true z13 0 (.dat T_ref05_State_rep) z9.1, .obj true 0 0 (mrep z40α.1.1 (Rep.str) (Rep.int .i64)) z42.2.2.kinds, .obj true 0 0 (mrep z40α.1.2 (T_store_place_rep) (T_api_Value_rep)) z42.2.2.set, .obj true z40α.2 0 (.dat T_ref05_State_rep) z42.1, .obj true 0 0 (mrep z45α.1.1 (Rep.str) (Rep.int .i64)) z47.2.2.kinds, .obj true 0 0 (mrep z45α.1.2 (T_store_place_rep) (T_api_Value_rep)) z47.2.2.set, .obj true z45α.2 0 (.dat T_ref05_State_rep) z47.1, .gone, .gone, (cond (S 8) (.obj true (z50α.2) 0 (.dat T_ref05_State_rep) T_ref05_State_zero) (.gone))]) (by first | exact hB z50α S false (S 8) false e4 rfl e9 | (have q := hB z50α S false (S 8) false e4 rfl e9; simp only [cond_true, cond_false] at q; exact q)) ?_
        refine o_move rfl rfl guard_none (look_o rfl rfl) (fun _ => rfl) ?_
        apply h_endA (α := z50α) (z50α.1, z50α.2)
        · exact (.same (.same (.same (.same (.same (.same (.same (.same (.same (.same (.same .nil)))))))))))
        · exact rfl
        · exact rfl
        · exact rfl
        · exact hB (z50α.1, z50α.2) (fun k => S k || Nat.beq k 2) false (S 8) false (or_f e4 rfl) (or_ne rfl) (or_f e9 rfl)
      · intro z50α S hc hk hp
        have e4 : S 4 = false := (not_yet (j := 4) (q := 2) hc hk rfl rfl rfl rfl)
        have e9 : S 9 = false := (not_yet (j := 9) (q := 6) hc hk rfl rfl rfl rfl)
        refine eq_H (H' := [.obj true z16 z17 (.dat (T_store_Store_repo z45α.1.1 z45α.1.2)) z47.2.2, .obj true z4 z5 (.dat (T_store_Store_repo z40α.1.1 z40α.1.2)) z42.2.2, .obj true z13 0 (.dat T_ref05_State_rep) z9.1, .obj true 0 0 (mrep z40α.1.1 (Rep.str) (Rep.int .i64)) z42.2.2.kinds, .obj true 0 0 (mrep z40α.1.2 (T_store_place_rep) (T_api_Value_rep)) z42.2.2.set, .obj true z40α.2 0 (.dat T_ref05_State_rep) z42.1, .obj true 0 0 (mrep z45α.1.1 (Rep.str) (Rep.int .i64)) z47.2.2.kinds, .obj true 0 0 (mrep z45α.1.2 (T_store_place_rep) (T_api_Value_rep)) z47.2.2.set, .obj true z45α.2 0 (.dat T_ref05_State_rep) z47.1, .gone, .gone, (cond (S 8) (.obj true (z50α.2) 0 (.dat T_ref05_State_rep) T_ref05_State_zero) (.gone))]) (by first | exact hB z50α S false (S 8) false e4 rfl e9 | (have q := hB z50α S false (S 8) false e4 rfl e9; simp only [cond_true, cond_false] at q; exact q)) ?_
        refine o_from (bind_eqO h_z51) ?_
        refine o_call rfl rfl rfl callable18 (looks_cons (look_d rfl rfl (pr hp 0 rfl rfl)) (fun _ => rfl) (looks_nil)) (law05_few_ok _) (o_eqO ?_)
        apply h_endA (α := z50α) (z50α.1, z50α.2)
        · exact (.same (.same (.same (.same (.same (.same (.same (.same (.same (.same (.same .nil)))))))))))
        · exact rfl
        · exact rfl
        · exact rfl
        · exact hB (z50α.1, z50α.2) (fun k => S k || Nat.beq k 3) false (S 8) false (or_f e4 rfl) (or_ne rfl) (or_f e9 rfl)
      · intro z50α S hc hk hp
        have e9 : S 9 = false := (not_yet (j := 9) (q := 2) hc hk rfl rfl rfl rfl)
        refine eq_H (H' := [.obj true z16 z17 (.dat (T_store_Store_repo z45α.1.1 z45α.1.2)) z47.2.2, .obj true z4 z5 (.dat (T_store_Store_repo z40α.1.1 z40α.1.2)) z42.2.2, .obj true z13 0 (.dat T_ref05_State_rep) z9.1, .obj true 0 0 (mrep z40α.1.1 (Rep.str) (Rep.int .i64)) z42.2.2.kinds, .obj true 0 0 (mrep z40α.1.2 (T_store_place_rep) (T_api_Value_rep)) z42.2.2.set, .obj true z40α.2 0 (.dat T_ref05_State_rep) z42.1, .obj true 0 0 (mrep z45α.1.1 (Rep.str) (Rep.int .i64)) z47.2.2.kinds, .obj true 0 0 (mrep z45α.1.2 (T_store_place_rep) (T_api_Value_rep)) z47.2.2.set, .obj true z45α.2 0 (.dat T_ref05_State_rep) z47.1, .gone, .gone, (cond (S 8) (.obj true (z50α.2) 0 (.dat T_ref05_State_rep) T_ref05_State_zero) (.gone))]) (by first | exact hB z50α S false (S 8) false hk rfl e9 | (have q := hB z50α S false (S 8) false hk rfl e9; simp only [cond_true, cond_false] at q; exact q)) ?_
        refine o_from (bind_eqO h_z52) ?_
        refine o_weak (H' := [.obj true 0 0 (mrep z40α.1.1 (Rep.str) (Rep.int .i64)) z42.2.2.kinds, .obj true 0 0 (mrep z40α.1.2 (T_store_place_rep) (T_api_Value_rep)) z42.2.2.set, .obj true z4 z5 (.dat (T_store_Store_repo z40α.1.1 z40α.1.2)) z42.2.2] ++ ([] ++ [.obj true z16 z17 (.dat (T_store_Store_repo z45α.1.1 z45α.1.2)) z47.2.2, .obj true z13 0 (.dat T_ref05_State_rep) z9.1, .obj true z40α.2 0 (.dat T_ref05_State_rep) z42.1, .obj true 0 0 (mrep z45α.1.1 (Rep.str) (Rep.int .i64)) z47.2.2.kinds, .obj true 0 0 (mrep z45α.1.2 (T_store_place_rep) (T_api_Value_rep)) z47.2.2.set, .obj true z45α.2 0 (.dat T_ref05_State_rep) z47.1, .gone, .gone, (cond (S 8) (.obj true (z50α.2) 0 (.dat T_ref05_State_rep) T_ref05_State_zero) (.gone))])) (sub_pick [3, 4, 1, 0, 2, 5, 6, 7, 8, 9, 10, 11] rfl rfl) ?_
        refine o_callU rfl rfl rfl rfl rfl callable16 (looks_cons (look_d rfl rfl (pr hp 0 rfl rfl)) (fun _ => rfl) (looks_cons (look_d rfl rfl (pr hp 1 rfl rfl)) (fun _ => rfl) (looks_cons (look_d rfl rfl (pr hp 2 rfl rfl)) (fun _ => rfl) (looks_nil)))) .nil (law05_run_ok _ _ _ _ z42.2.2 z42.1 z51) (fun _ _ => (wr_c (wr_c (wr_c wr_n)))) (fun z53α => o_eqOH ?_)
        refine o_weak (H' := [.obj true 0 0 (mrep z53α.1 (Rep.str) (Rep.int .i64)) z52.2.2.kinds, .obj true 0 0 (mrep z53α.2 (T_store_place_rep) (T_api_Value_rep)) z52.2.2.set, .obj true z4 z5 (.dat (T_store_Store_repo z53α.1 z53α.2)) z52.2.2, .obj true z16 z17 (.dat (T_store_Store_repo z45α.1.1 z45α.1.2)) z47.2.2, .obj true z13 0 (.dat T_ref05_State_rep) z9.1, .obj true z40α.2 0 (.dat T_ref05_State_rep) z42.1, .obj true 0 0 (mrep z45α.1.1 (Rep.str) (Rep.int .i64)) z47.2.2.kinds, .obj true 0 0 (mrep z45α.1.2 (T_store_place_rep) (T_api_Value_rep)) z47.2.2.set, .obj true z45α.2 0 (.dat T_ref05_State_rep) z47.1, .gone, .gone, (cond (S 8) (.obj true (z50α.2) 0 (.dat T_ref05_State_rep) T_ref05_State_zero) (.gone))]) (sub_pick [0, 1, 2, 3, 4, 5, 6, 7, 8, 9, 10, 11] rfl rfl) ?_
        refine o_weak sub_gone ?_
        refine o_weak sub_gone ?_
        refine o_weak (H' := [.obj true z16 z17 (.dat (T_store_Store_repo z45α.1.1 z45α.1.2)) z47.2.2, .obj true z4 z5 (.dat (T_store_Store_repo z53α.1 z53α.2)) z52.2.2, .obj true z13 0 (.dat T_ref05_State_rep) z9.1, .gone, .gone, .obj true z40α.2 0 (.dat T_ref05_State_rep) z42.1, .obj true 0 0 (mrep z45α.1.1 (Rep.str) (Rep.int .i64)) z47.2.2.kinds, .obj true 0 0 (mrep z45α.1.2 (T_store_place_rep) (T_api_Value_rep)) z47.2.2.set, .obj true z45α.2 0 (.dat T_ref05_State_rep) z47.1, .obj true 0 0 (mrep z53α.1 (Rep.str) (Rep.int .i64)) z52.2.2.kinds, .obj true 0 0 (mrep z53α.2 (T_store_place_rep) (T_api_Value_rep)) z52.2.2.set, (cond (S 8) (.obj true (z50α.2) 0 (.dat T_ref05_State_rep) T_ref05_State_zero) (.gone))]) (sub_pick [5, 4, 6, 1, 0, 7, 8, 9, 10, 2, 3, 13] rfl rfl) ?_
        apply h_endA (α := z50α) (z53α, z50α.2)
        · exact (.same (.same (.same (.same (.same (.same (.same (.same (.same (.same (.same .nil)))))))))))
        · exact rfl
        · exact rfl
        · exact rfl
        · exact hB (z53α, z50α.2) (fun k => S k || Nat.beq k 4) true (S 8) false (or_i rfl) (or_ne rfl) (or_f e9 rfl)
      · intro z50α S hc hk hp
        have e4 : S 4 = true := (pr hp 0 rfl rfl)
        have e9 : S 9 = false := (not_yet (j := 9) (q := 8) hc hk rfl rfl rfl rfl)
        refine eq_H (H' := [.obj true z16 z17 (.dat (T_store_Store_repo z45α.1.1 z45α.1.2)) z47.2.2, .obj true z4 z5 (.dat (T_store_Store_repo z50α.1.1 z50α.1.2)) z52.2.2, .obj true z13 0 (.dat T_ref05_State_rep) z9.1, .gone, .gone, .obj true z40α.2 0 (.dat T_ref05_State_rep) z42.1, .obj true 0 0 (mrep z45α.1.1 (Rep.str) (Rep.int .i64)) z47.2.2.kinds, .obj true 0 0 (mrep z45α.1.2 (T_store_place_rep) (T_api_Value_rep)) z47.2.2.set, .obj true z45α.2 0 (.dat T_ref05_State_rep) z47.1, .obj true 0 0 (mrep (z50α.1.1) (Rep.str) (Rep.int .i64)) z52.2.2.kinds, .obj true 0 0 (mrep (z50α.1.2) (T_store_place_rep) (T_api_Value_rep)) z52.2.2.set, (cond (S 8) (.obj true (z50α.2) 0 (.dat T_ref05_State_rep) T_ref05_State_zero) (.gone))]) (by first | exact hB z50α S true (S 8) false e4 rfl e9 | (have q := hB z50α S true (S 8) false e4 rfl e9; simp only [cond_true, cond_false] at q; exact q)) ?_
        refine o_move rfl rfl guard_none (look_d rfl rfl (pr hp 0 rfl rfl)) (fun _ => rfl) ?_
        apply h_endA (α := z50α) (z50α.1, z50α.2)
        · exact (.same (.same (.same (.same (.same (.same (.same (.same (.same (.same (.same .nil)))))))))))
        · exact rfl
        · exact rfl
        · exact rfl
        · exact hB (z50α.1, z50α.2) (fun k => S k || Nat.beq k 5) true (S 8) false (or_t e4) (or_ne rfl) (or_f e9 rfl)
      · intro z50α S hc hk hp
        have e4 : S 4 = true := (pr (hc 5 _ rfl (pr hp 0 rfl rfl)) 0 rfl rfl)
        have e9 : S 9 = false := (not_yet (j := 9) (q := 1) hc hk rfl rfl rfl rfl)
        refine eq_H (H' := [.obj true z16 z17 (.dat (T_store_Store_repo z45α.1.1 z45α.1.2)) z47.2.2, .obj true z4 z5 (.dat (T_store_Store_repo z50α.1.1 z50α.1.2)) z52.2.2, .obj true z13 0 (.dat T_ref05_State_rep) z9.1, .gone, .gone, .obj true z40α.2 0 (.dat T_ref05_State_rep) z42.1, .obj true 0 0 (mrep z45α.1.1 (Rep.str) (Rep.int .i64)) z47.2.2.kinds, .obj true 0 0 (mrep z45α.1.2 (T_store_place_rep) (T_api_Value_rep)) z47.2.2.set, .obj true z45α.2 0 (.dat T_ref05_State_rep) z47.1, .obj true 0 0 (mrep (z50α.1.1) (Rep.str) (Rep.int .i64)) z52.2.2.kinds, .obj true 0 0 (mrep (z50α.1.2) (T_store_place_rep) (T_api_Value_rep)) z52.2.2.set, (cond (S 8) (.obj true (z50α.2) 0 (.dat T_ref05_State_rep) T_ref05_State_zero) (.gone))]) (by first | exact hB z50α S true (S 8) false e4 rfl e9 | (have q := hB z50α S true (S 8) false e4 rfl e9; simp only [cond_true, cond_false] at q; exact q)) ?_
        refine o_fst rfl rfl guard_none (look_d rfl rfl (pr hp 0 rfl rfl)) (fun _ => rfl) ?_
        apply h_endA (α := z50α) (z50α.1, z50α.2)
        · exact (.same (.same (.same (.same (.same (.same (.same (.same (.same (.same (.same .nil)))))))))))
        · exact rfl
        · exact rfl
        · exact rfl
        · exact hB (z50α.1, z50α.2) (fun k => S k || Nat.beq k 6) true (S 8) false (or_t e4) (or_ne rfl) (or_f e9 rfl)
      · intro z50α S hc hk hp
        have e4 : S 4 = true := (pr (hc 5 _ rfl (pr hp 0 rfl rfl)) 0 rfl rfl)
        refine eq_H (H' := [.obj true z16 z17 (.dat (T_store_Store_repo z45α.1.1 z45α.1.2)) z47.2.2, .obj true z4 z5 (.dat (T_store_Store_repo z50α.1.1 z50α.1.2)) z52.2.2, .obj true z13 0 (.dat T_ref05_State_rep) z9.1, .gone, .gone, .obj true z40α.2 0 (.dat T_ref05_State_rep) z42.1, .obj true 0 0 (mrep z45α.1.1 (Rep.str) (Rep.int .i64)) z47.2.2.kinds, .obj true 0 0 (mrep z45α.1.2 (T_store_place_rep) (T_api_Value_rep)) z47.2.2.set, .obj true z45α.2 0 (.dat T_ref05_State_rep) z47.1, .obj true 0 0 (mrep (z50α.1.1) (Rep.str) (Rep.int .i64)) z52.2.2.kinds, .obj true 0 0 (mrep (z50α.1.2) (T_store_place_rep) (T_api_Value_rep)) z52.2.2.set, (cond (S 9) (.obj true (z50α.2) 0 (.dat T_ref05_State_rep) z52.1) ((cond (S 8) (.obj true (z50α.2) 0 (.dat T_ref05_State_rep) T_ref05_State_zero) (.gone))))]) (by first | exact hB z50α S true (S 8) (S 9) e4 rfl rfl | (have q := hB z50α S true (S 8) (S 9) e4 rfl rfl; simp only [cond_true, cond_false] at q; exact q)) ?_
        refine o_snd rfl rfl guard_none (look_d rfl rfl (pr hp 0 rfl rfl)) (fun _ => rfl) ?_
        apply h_endA (α := z50α) (z50α.1, z50α.2)
        · exact (.same (.same (.same (.same (.same (.same (.same (.same (.same (.same (.same .nil)))))))))))
        · exact rfl
        · exact rfl
        · exact rfl
        · exact hB (z50α.1, z50α.2) (fun k => S k || Nat.beq k 7) true (S 8) (S 9) (or_t e4) (or_ne rfl) (or_ne rfl)
      · intro z50α S hc hk hp
        have e9 : S 9 = false := (not_yet (j := 9) (q := 0) hc hk rfl rfl rfl rfl)
        refine eq_H (H' := [.obj true z16 z17 (.dat (T_store_Store_repo z45α.1.1 z45α.1.2)) z47.2.2, (cond (S 4) (.obj true z4 z5 (.dat (T_store_Store_repo z50α.1.1 z50α.1.2)) z52.2.2) (.obj true z4 z5 (.dat (T_store_Store_repo z40α.1.1 z40α.1.2)) z42.2.2)), .obj true z13 0 (.dat T_ref05_State_rep) z9.1, (cond (S 4) (.gone) (.obj true 0 0 (mrep z40α.1.1 (Rep.str) (Rep.int .i64)) z42.2.2.kinds)), (cond (S 4) (.gone) (.obj true 0 0 (mrep z40α.1.2 (T_store_place_rep) (T_api_Value_rep)) z42.2.2.set)), .obj true z40α.2 0 (.dat T_ref05_State_rep) z42.1, .obj true 0 0 (mrep z45α.1.1 (Rep.str) (Rep.int .i64)) z47.2.2.kinds, .obj true 0 0 (mrep z45α.1.2 (T_store_place_rep) (T_api_Value_rep)) z47.2.2.set, .obj true z45α.2 0 (.dat T_ref05_State_rep) z47.1, (cond (S 4) (.obj true 0 0 (mrep (z50α.1.1) (Rep.str) (Rep.int .i64)) z52.2.2.kinds) (.gone)), (cond (S 4) (.obj true 0 0 (mrep (z50α.1.2) (T_store_place_rep) (T_api_Value_rep)) z52.2.2.set) (.gone)), .gone]) (by first | exact hB z50α S (S 4) false false rfl hk e9 | (have q := hB z50α S (S 4) false false rfl hk e9; simp only [cond_true, cond_false] at q; exact q)) ?_
        refine o_alloc zero27 rfl rfl (fun z54 => ?_)
        refine o_weak (H' := [.obj true z16 z17 (.dat (T_store_Store_repo z45α.1.1 z45α.1.2)) z47.2.2, (cond (S 4) (.obj true z4 z5 (.dat (T_store_Store_repo z50α.1.1 z50α.1.2)) z52.2.2) (.obj true z4 z5 (.dat (T_store_Store_repo z40α.1.1 z40α.1.2)) z42.2.2)), .obj true z13 0 (.dat T_ref05_State_rep) z9.1, (cond (S 4) (.gone) (.obj true 0 0 (mrep z40α.1.1 (Rep.str) (Rep.int .i64)) z42.2.2.kinds)), (cond (S 4) (.gone) (.obj true 0 0 (mrep z40α.1.2 (T_store_place_rep) (T_api_Value_rep)) z42.2.2.set)), .obj true z40α.2 0 (.dat T_ref05_State_rep) z42.1, .obj true 0 0 (mrep z45α.1.1 (Rep.str) (Rep.int .i64)) z47.2.2.kinds, .obj true 0 0 (mrep z45α.1.2 (T_store_place_rep) (T_api_Value_rep)) z47.2.2.set, .obj true z45α.2 0 (.dat T_ref05_State_rep) z47.1, (cond (S 4) (.obj true 0 0 (mrep (z50α.1.1) (Rep.str) (Rep.int .i64)) z52.2.2.kinds) (.gone)), (cond (S 4) (.obj true 0 0 (mrep (z50α.1.2) (T_store_place_rep) (T_api_Value_rep)) z52.2.2.set) (.gone)), .obj true z54 0 (.dat T_ref05_State_rep) T_ref05_State_zero]) (sub_pick [1, 2, 3, 4, 5, 6, 7, 8, 9, 10, 11, 0] rfl rfl) ?_
        apply h_endA (α := z50α) (z50α.1, z54)
        · exact (.same (.same (.same (.same (.same (.same (.same (.same (.off hk (.same (.same .nil)))))))))))
        · exact rfl
        · exact rfl
        · exact rfl
        · exact hB (z50α.1, z54) (fun k => S k || Nat.beq k 8) (S 4) true false (or_ne rfl) (or_i rfl) (or_f e9 rfl)
      · intro z50α S hc hk hp
        have e4 : S 4 = true := (pr hp 2 rfl rfl)
        have e8 : S 8 = true := (pr hp 0 rfl rfl)
        refine eq_H (H' := [.obj true z16 z17 (.dat (T_store_Store_repo z45α.1.1 z45α.1.2)) z47.2.2, .obj true z4 z5 (.dat (T_store_Store_repo z50α.1.1 z50α.1.2)) z52.2.2, .obj true z13 0 (.dat T_ref05_State_rep) z9.1, .gone, .gone, .obj true z40α.2 0 (.dat T_ref05_State_rep) z42.1, .obj true 0 0 (mrep z45α.1.1 (Rep.str) (Rep.int .i64)) z47.2.2.kinds, .obj true 0 0 (mrep z45α.1.2 (T_store_place_rep) (T_api_Value_rep)) z47.2.2.set, .obj true z45α.2 0 (.dat T_ref05_State_rep) z47.1, .obj true 0 0 (mrep (z50α.1.1) (Rep.str) (Rep.int .i64)) z52.2.2.kinds, .obj true 0 0 (mrep (z50α.1.2) (T_store_place_rep) (T_api_Value_rep)) z52.2.2.set, .obj true (z50α.2) 0 (.dat T_ref05_State_rep) T_ref05_State_zero]) (by first | exact hB z50α S true true false e4 e8 hk | (have q := hB z50α S true true false e4 e8 hk; simp only [cond_true, cond_false] at q; exact q)) ?_
        refine o_weak (H' := [.obj true (z50α.2) 0 (.dat T_ref05_State_rep) T_ref05_State_zero, .obj true z16 z17 (.dat (T_store_Store_repo z45α.1.1 z45α.1.2)) z47.2.2, .obj true z4 z5 (.dat (T_store_Store_repo z50α.1.1 z50α.1.2)) z52.2.2, .obj true z13 0 (.dat T_ref05_State_rep) z9.1, .gone, .gone, .obj true z40α.2 0 (.dat T_ref05_State_rep) z42.1, .obj true 0 0 (mrep z45α.1.1 (Rep.str) (Rep.int .i64)) z47.2.2.kinds, .obj true 0 0 (mrep z45α.1.2 (T_store_place_rep) (T_api_Value_rep)) z47.2.2.set, .obj true z45α.2 0 (.dat T_ref05_State_rep) z47.1, .obj true 0 0 (mrep (z50α.1.1) (Rep.str) (Rep.int .i64)) z52.2.2.kinds, .obj true 0 0 (mrep (z50α.1.2) (T_store_place_rep) (T_api_Value_rep)) z52.2.2.set]) (sub_pick [11, 0, 1, 2, 3, 4, 5, 6, 7, 8, 9, 10] rfl rfl) ?_
        refine o_ostore type27 foc_self guard_none (look_d rfl rfl (pr hp 0 rfl rfl)) (fun _ => rfl) (look_d rfl rfl (pr hp 1 rfl rfl)) (fun _ => rfl) ?_
        refine o_weak (H' := [.obj true z16 z17 (.dat (T_store_Store_repo z45α.1.1 z45α.1.2)) z47.2.2, .obj true z4 z5 (.dat (T_store_Store_repo z50α.1.1 z50α.1.2)) z52.2.2, .obj true z13 0 (.dat T_ref05_State_rep) z9.1, .gone, .gone, .obj true z40α.2 0 (.dat T_ref05_State_rep) z42.1, .obj true 0 0 (mrep z45α.1.1 (Rep.str) (Rep.int .i64)) z47.2.2.kinds, .obj true 0 0 (mrep z45α.1.2 (T_store_place_rep) (T_api_Value_rep)) z47.2.2.set, .obj true z45α.2 0 (.dat T_ref05_State_rep) z47.1, .obj true 0 0 (mrep (z50α.1.1) (Rep.str) (Rep.int .i64)) z52.2.2.kinds, .obj true 0 0 (mrep (z50α.1.2) (T_store_place_rep) (T_api_Value_rep)) z52.2.2.set, .obj true (z50α.2) 0 (.dat T_ref05_State_rep) z52.1]) (sub_pick [1, 2, 3, 4, 5, 6, 7, 8, 9, 10, 11, 0] rfl rfl) ?_
        refine h_none (n := 81) (d := 90) rfl rfl ?_
        apply h_endA (α := z50α) (z50α.1, z50α.2)
        · exact (.same (.same (.same (.same (.same (.same (.same (.same (.same (.same (.same .nil)))))))))))
        · exact rfl
        · exact rfl
        · exact rfl
        · exact hB (z50α.1, z50α.2) (fun k => S k || Nat.beq k 9) true true true (or_t e4) (or_t e8) (or_i rfl)
      · intro z50α S hc hk hp
        have e4 : S 4 = true := (pr hp 6 rfl rfl)
        have e8 : S 8 = true := (pr hp 10 rfl rfl)
        have e9 : S 9 = true := (pr hp 1 rfl rfl)
        refine eq_H (H' := [.obj true z16 z17 (.dat (T_store_Store_repo z45α.1.1 z45α.1.2)) z47.2.2, .obj true z4 z5 (.dat (T_store_Store_repo z50α.1.1 z50α.1.2)) z52.2.2, .obj true z13 0 (.dat T_ref05_State_rep) z9.1, .gone, .gone, .obj true z40α.2 0 (.dat T_ref05_State_rep) z42.1, .obj true 0 0 (mrep z45α.1.1 (Rep.str) (Rep.int .i64)) z47.2.2.kinds, .obj true 0 0 (mrep z45α.1.2 (T_store_place_rep) (T_api_Value_rep)) z47.2.2.set, .obj true z45α.2 0 (.dat T_ref05_State_rep) z47.1, .obj true 0 0 (mrep (z50α.1.1) (Rep.str) (Rep.int .i64)) z52.2.2.kinds, .obj true 0 0 (mrep (z50α.1.2) (T_store_place_rep) (T_api_Value_rep)) z52.2.2.set, .obj true (z50α.2) 0 (.dat T_ref05_State_rep) z52.1]) (by first | exact hB z50α S true true true e4 e8 e9 | (have q := hB z50α S true true true e4 e8 e9; simp only [cond_true, cond_false] at q; exact q)) ?_
        refine o_assign rfl rfl guard_none (look_d rfl rfl (pr hp 0 rfl rfl)) (fun _ => rfl) ?_
        apply h_endA (α := z50α) (z50α.1, z50α.2)
        · exact (.same (.same (.same (.same (.same (.same (.same (.same (.same (.same (.same .nil)))))))))))
        · exact rfl
        · exact rfl
        · exact rfl
        · exact hB (z50α.1, z50α.2) (fun k => S k || Nat.beq k 10) true true true (or_t e4) (or_t e8) (or_t e9)
      refine den_weak (H' := [.obj true z16 z17 (.dat (T_store_Store_repo z45α.1.1 z45α.1.2)) z47.2.2, .obj true z4 z5 (.dat (T_store_Store_repo z50α.1.1 z50α.1.2)) z52.2.2, .obj true z13 0 (.dat T_ref05_State_rep) z9.1, .obj true z40α.2 0 (.dat T_ref05_State_rep) z42.1, .obj true 0 0 (mrep z45α.1.1 (Rep.str) (Rep.int .i64)) z47.2.2.kinds, .obj true 0 0 (mrep z45α.1.2 (T_store_place_rep) (T_api_Value_rep)) z47.2.2.set, .obj true z45α.2 0 (.dat T_ref05_State_rep) z47.1, .obj true 0 0 (mrep z50α.1.1 (Rep.str) (Rep.int .i64)) z52.2.2.kinds, .obj true 0 0 (mrep z50α.1.2 (T_store_place_rep) (T_api_Value_rep)) z52.2.2.set, .obj true z50α.2 0 (.dat T_ref05_State_rep) z52.1]) (sub_pick [0, 1, 2, 5, 6, 7, 8, 9, 10, 11] rfl rfl) ?_
      refine den_seq ?_
      refine den_open (fun z56 h_z56 => ?_)
      refine den_open (fun z57 h_z57 => ?_)
      have hB : ∀ (z55α : ((Value × Value) × Nat)) (S : Nat → Bool) (b4 b8 b9 : Bool), S 4 = b4 → S 8 = b8 → S 9 = b9 → (([(cond (S 4) (.obj true z16 z17 (.dat (T_store_Store_repo z55α.1.1 z55α.1.2)) z57.2.2) (.obj true z16 z17 (.dat (T_store_Store_repo z45α.1.1 z45α.1.2)) z47.2.2)), .obj true z4 z5 (.dat (T_store_Store_repo z50α.1.1 z50α.1.2)) z52.2.2, .obj true z13 0 (.dat T_ref05_State_rep) z9.1, .obj true z40α.2 0 (.dat T_ref05_State_rep) z42.1, (cond (S 4) (.gone) (.obj true 0 0 (mrep z45α.1.1 (Rep.str) (Rep.int .i64)) z47.2.2.kinds)), (cond (S 4) (.gone) (.obj true 0 0 (mrep z45α.1.2 (T_store_place_rep) (T_api_Value_rep)) z47.2.2.set)), .obj true z45α.2 0 (.dat T_ref05_State_rep) z47.1, .obj true 0 0 (mrep z50α.1.1 (Rep.str) (Rep.int .i64)) z52.2.2.kinds, .obj true 0 0 (mrep z50α.1.2 (T_store_place_rep) (T_api_Value_rep)) z52.2.2.set, .obj true z50α.2 0 (.dat T_ref05_State_rep) z52.1, (cond (S 4) (.obj true 0 0 (mrep (z55α.1.1) (Rep.str) (Rep.int .i64)) z57.2.2.kinds) (.gone)), (cond (S 4) (.obj true 0 0 (mrep (z55α.1.2) (T_store_place_rep) (T_api_Value_rep)) z57.2.2.set) (.gone)), (cond (S 9) (.obj true (z55α.2) 0 (.dat T_ref05_State_rep) z57.1) ((cond (S 8) (.obj true (z55α.2) 0 (.dat T_ref05_State_rep) T_ref05_State_zero) (.gone))))] : List Go.Eng.Item)) = ([(cond b4 (.obj true z16 z17 (.dat (T_store_Store_repo z55α.1.1 z55α.1.2)) z57.2.2) (.obj true z16 z17 (.dat (T_store_Store_repo z45α.1.1 z45α.1.2)) z47.2.2)), .obj true z4 z5 (.dat (T_store_Store_repo z50α.1.1 z50α.1.2)) z52.2.2, .obj true z13 0 (.dat T_ref05_State_rep) z9.1, .obj true z40α.2 0 (.dat T_ref05_State_rep) z42.1, (cond b4 (.gone) (.obj true 0 0 (mrep z45α.1.1 (Rep.str) (Rep.int .i64)) z47.2.2.kinds)), (cond b4 (.gone) (.obj true 0 0 (mrep z45α.1.2 (T_store_place_rep) (T_api_Value_rep)) z47.2.2.set)), .obj true z45α.2 0 (.dat T_ref05_State_rep) z47.1, .obj true 0 0 (mrep z50α.1.1 (Rep.str) (Rep.int .i64)) z52.2.2.kinds, .obj true 0 0 (mrep z50α.1.2 (T_store_place_rep) (T_api_Value_rep)) z52.2.2.set, .obj true z50α.2 0 (.dat T_ref05_State_rep) z52.1, (cond b4 (.obj true 0 0 (mrep (z55α.1.1) (Rep.str) (Rep.int .i64)) z57.2.2.kinds) (.gone)), (cond b4 (.obj true 0 0 (mrep (z55α.1.2) (T_store_place_rep) (T_api_Value_rep)) z57.2.2.set) (.gone)), (cond b9 (.obj true (z55α.2) 0 (.dat T_ref05_State_rep) z57.1) ((cond b8 (.obj true (z55α.2) 0 (.dat T_ref05_State_rep) T_ref05_State_zero) (.gone))))] : List Go.Eng.Item) := fun z55α S b4 b8 b9 h4 h8 h9 => by subst h4; subst h8; subst h9; rfl
      refine den_weak sub_gone ?_
      refine den_weak sub_gone ?_
      refine den_weak sub_gone ?_
      refine den_weak (sub_pick (H' := [.obj true z16 z17 (.dat (T_store_Store_repo z45α.1.1 z45α.1.2)) z47.2.2, .obj true z4 z5 (.dat (T_store_Store_repo z50α.1.1 z50α.1.2)) z52.2.2, .obj true z13 0 (.dat T_ref05_State_rep) z9.1, .obj true z40α.2 0 (.dat T_ref05_State_rep) z42.1, .obj true 0 0 (mrep z45α.1.1 (Rep.str) (Rep.int .i64)) z47.2.2.kinds, .obj true 0 0 (mrep z45α.1.2 (T_store_place_rep) (T_api_Value_rep)) z47.2.2.set, .obj true z45α.2 0 (.dat T_ref05_State_rep) z47.1, .obj true 0 0 (mrep z50α.1.1 (Rep.str) (Rep.int .i64)) z52.2.2.kinds, .obj true 0 0 (mrep z50α.1.2 (T_store_place_rep) (T_api_Value_rep)) z52.2.2.set, .obj true z50α.2 0 (.dat T_ref05_State_rep) z52.1, .gone, .gone, .gone]) [3, 4, 5, 6, 7, 8, 9, 10, 11, 12, 0, 1, 2] rfl rfl) ?_
      refine den_drawA (A := ((Value × Value) × Nat)) (H' := fun z55α => [.obj true z16 z17 (.dat (T_store_Store_repo z55α.1.1 z55α.1.2)) z57.2.2, .obj true z4 z5 (.dat (T_store_Store_repo z50α.1.1 z50α.1.2)) z52.2.2, .obj true z13 0 (.dat T_ref05_State_rep) z9.1, .obj true z40α.2 0 (.dat T_ref05_State_rep) z42.1, .gone, .gone, .obj true z45α.2 0 (.dat T_ref05_State_rep) z47.1, .obj true 0 0 (mrep z50α.1.1 (Rep.str) (Rep.int .i64)) z52.2.2.kinds, .obj true 0 0 (mrep z50α.1.2 (T_store_place_rep) (T_api_Value_rep)) z52.2.2.set, .obj true z50α.2 0 (.dat T_ref05_State_rep) z52.1, .obj true 0 0 (mrep (z55α.1.1) (Rep.str) (Rep.int .i64)) z57.2.2.kinds, .obj true 0 0 (mrep (z55α.1.2) (T_store_place_rep) (T_api_Value_rep)) z57.2.2.set, .obj true (z55α.2) 0 (.dat T_ref05_State_rep) z57.1]) (fun z55α => [(61, ⟨Rep.addr, (z16, z17), true⟩), (62, ⟨T_ref05_State_rep, z47.1, true⟩), (63, ⟨(T_law05_Op_rep).slice, b_2, true⟩), (64, ⟨(T_law05_Op_rep).slice, z56, true⟩), (65, ⟨Rep.pair (T_ref05_State_rep) (Rep.bool), (z57.1, z57.2.1), true⟩), (60, ⟨Rep.pair (T_ref05_State_rep) (Rep.bool), (z57.1, z57.2.1), true⟩), (66, ⟨T_ref05_State_rep, z57.1, true⟩), (67, ⟨Rep.bool, z57.2.1, true⟩), (19, ⟨Rep.addr, (z55α.2, 0), true⟩), (90, ⟨.any, (), false⟩), (20, ⟨Rep.bool, z57.2.1, true⟩)]) (fun z55α S => [(cond (S 4) (.obj true z16 z17 (.dat (T_store_Store_repo z55α.1.1 z55α.1.2)) z57.2.2) (.obj true z16 z17 (.dat (T_store_Store_repo z45α.1.1 z45α.1.2)) z47.2.2)), .obj true z4 z5 (.dat (T_store_Store_repo z50α.1.1 z50α.1.2)) z52.2.2, .obj true z13 0 (.dat T_ref05_State_rep) z9.1, .obj true z40α.2 0 (.dat T_ref05_State_rep) z42.1, (cond (S 4) (.gone) (.obj true 0 0 (mrep z45α.1.1 (Rep.str) (Rep.int .i64)) z47.2.2.kinds)), (cond (S 4) (.gone) (.obj true 0 0 (mrep z45α.1.2 (T_store_place_rep) (T_api_Value_rep)) z47.2.2.set)), .obj true z45α.2 0 (.dat T_ref05_State_rep) z47.1, .obj true 0 0 (mrep z50α.1.1 (Rep.str) (Rep.int .i64)) z52.2.2.kinds, .obj true 0 0 (mrep z50α.1.2 (T_store_place_rep) (T_api_Value_rep)) z52.2.2.set, .obj true z50α.2 0 (.dat T_ref05_State_rep) z52.1, (cond (S 4) (.obj true 0 0 (mrep (z55α.1.1) (Rep.str) (Rep.int .i64)) z57.2.2.kinds) (.gone)), (cond (S 4) (.obj true 0 0 (mrep (z55α.1.2) (T_store_place_rep) (T_api_Value_rep)) z57.2.2.set) (.gone)), (cond (S 9) (.obj true (z55α.2) 0 (.dat T_ref05_State_rep) z57.1) ((cond (S 8) (.obj true (z55α.2) 0 (.dat T_ref05_State_rep) T_ref05_State_zero) (.gone))))]) (((Value.slice none 0 0), (Value.slice none 0 0)), 0) mixed (fun _ => rfl) rfl rfl (fun z55α S hS => hB z55α S true true true (hS 4 (by decide)) (hS 8 (by decide)) (hS 9 (by decide))) ⟨?_, ?_, ?_, ?_, ?_, ?_, ?_, ?_, ?_, ?_, ?_, trivial⟩ (fun z55α => ?_)
      · intro z55α S hc hk hp
        have e4 : S 4 = false := (not_yet (j := 4) (q := 0) hc hk rfl rfl rfl rfl)
        have e9 : S 9 = false := (not_yet (j := 9) (q := 3) hc hk rfl rfl rfl rfl)
        refine eq_H (H' := [.obj true z16 z17 (.dat (T_store_Store_repo z45α.1.1 z45α.1.2)) z47.2.2, .obj true z4 z5 (.dat (T_store_Store_repo z50α.1.1 z50α.1.2)) z52.2.2, .obj true z13 0 (.dat T_ref05_State_rep) z9.1, .obj true z40α.2 0 (.dat T_ref05_State_rep) z42.1, .obj true 0 0 (mrep z45α.1.1 (Rep.str) (Rep.int .i64)) z47.2.2.kinds, .obj true 0 0 (mrep z45α.1.2 (T_store_place_rep) (T_api_Value_rep)) z47.2.2.set, .obj true z45α.2 0 (.dat T_ref05_State_rep) z47.1, .obj true 0 0 (mrep z50α.1.1 (Rep.str) (Rep.int .i64)) z52.2.2.kinds, .obj true 0 0 (mrep z50α.1.2 (T_store_place_rep) (T_api_Value_rep)) z52.2.2.set, .obj true z50α.2 0 (.dat T_ref05_State_rep) z52.1, .gone, .gone, (cond (S 8) (.obj true (z55α.2) 0 (.dat T_ref05_State_rep) T_ref05_State_zero) (.gone))]) (by first | exact hB z55α S false (S 8) false e4 rfl e9 | (have q := hB z55α S false (S 8) false e4 rfl e9; simp only [cond_true, cond_false] at q; exact q)) ?_
        refine o_move rfl rfl guard_none (look_o rfl rfl) (fun _ => rfl) ?_
        apply h_endA (α := z55α) (z55α.1, z55α.2)
        · exact (.same (.same (.same (.same (.same (.same (.same (.same (.same (.same (.same .nil)))))))))))
        · exact rfl
        · exact rfl
        · exact rfl
        · exact hB (z55α.1, z55α.2) (fun k => S k || Nat.beq k 0) false (S 8) false (or_f e4 rfl) (or_ne rfl) (or_f e9 rfl)
      · intro z55α S hc hk hp
        have e4 : S 4 = false := (not_yet (j := 4) (q := 1) hc hk rfl rfl rfl rfl)
        have e9 : S 9 = false := (not_yet (j := 9) (q := 4) hc hk rfl rfl rfl rfl)
        refine eq_H (H' := [.obj true z16 z17 (.dat (T_store_Store_repo z45α.1.1 z45α.1.2)) z47.2.2, .obj true z4 z5 (.dat (T_store_Store_repo z50α.1.1 z50α.1.2)) z52.2.2, .obj true z13 0 (.dat T_ref05_State_rep) z9.1, .obj true z40α.2 0 (.dat T_ref05_State_rep) z42.1, .obj true 0 0 (mrep z45α.1.1 (Rep.str) (Rep.int .i64)) z47.2.2.kinds, .obj true 0 0 (mrep z45α.1.2 (T_store_place_rep) (T_api_Value_rep)) z47.2.2.set, .obj true z45α.2 0 (.dat T_ref05_State_rep) z47.1, .obj true 0 0 (mrep z50α.1.1 (Rep.str) (Rep.int .i64)) z52.2.2.kinds, .obj true 0 0 (mrep z50α.1.2 (T_store_place_rep) (T_api_Value_rep)) z52.2.2.set, .obj true z50α.2 0 (.dat T_ref05_State_rep) z52.1, .gone, .gone, (cond (S 8) (.obj true (z55α.2) 0 (.dat T_ref05_State_rep) T_ref05_State_zero) (.gone))]) (by first | exact hB z55α S false (S 8) false e4 rfl e9 | (have q := hB z55α S false (S 8) false e4 rfl e9; simp only [cond_true, cond_false] at q; exact q)) ?_
        refine o_oloadi 6 rfl type27 foc_self rfl guard_none (look_o rfl rfl) (fun _ => rfl) ?_
        apply h_endA (α := z55α) (z55α.1, z55α.2)
        · exact (.same (.same (.same (.same (.same (.same (.same (.same (.same (.same (.same .nil)))))))))))
        · exact rfl
        · exact rfl
        · exact rfl
        · exact hB (z55α.1, z55α.2) (fun k => S k || Nat.beq k 1) false (S 8) false (or_f e4 rfl) (or_ne rfl) (or_f e9 rfl)
      · intro z55α S hc hk hp
        have e4 : S 4 = false := (not_yet (j := 4) (q := 2) hc (not_yet (j := 3) (q := 0) hc hk rfl rfl rfl rfl) rfl rfl rfl rfl)
        have e9 : S 9 = false := (not_yet (j := 9) (q := 5) hc hk rfl rfl rfl rfl)
        refine eq_H (H' := [.obj true z16 z17 (.dat (T_store_Store_repo z45α.1.1 z45α.1.2)) z47.2.2, .obj true z4 z5 (.dat (T_store_Store_repo z50α.1.1 z50α.1.2)) z52.2.2, .obj true z13 0 (.dat T_ref05_State_rep) z9.1, .obj true z40α.2 0 (.dat T_ref05_State_rep) z42.1, .obj true 0 0 (mrep z45α.1.1 (Rep.str) (Rep.int .i64)) z47.2.2.kinds, .obj true 0 0 (mrep z45α.1.2 (T_store_place_rep) (T_api_Value_rep)) z47.2.2.set, .obj true z45α.2 0 (.dat T_ref05_State_rep) z47.1, .obj true 0 0 (mrep z50α.1.1 (Rep.str) (Rep.int .i64)) z52.2.2.kinds, .obj true 0 0 (mrep z50α.1.2 (T_store_place_rep) (T_api_Value_rep)) z52.2.2.set, .obj true z50α.2 0 (.dat T_ref05_State_rep) z52.1, .gone, .gone, (cond (S 8) (.obj true (z55α.2) 0 (.dat T_ref05_State_rep) T_ref05_State_zero) (.gone))]) (by first | exact hB z55α S false (S 8) false e4 rfl e9 | (have q := hB z55α S false (S 8) false e4 rfl e9; simp only [cond_true, cond_false] at q; exact q)) ?_
        refine o_move rfl rfl guard_none (look_o rfl rfl) (fun _ => rfl) ?_
        apply h_endA (α := z55α) (z55α.1, z55α.2)
        · exact (.same (.same (.same (.same (.same (.same (.same (.same (.same (.same (.same .nil)))))))))))
        · exact rfl
        · exact rfl
        · exact rfl
        · exact hB (z55α.1, z55α.2) (fun k => S k || Nat.beq k 2) false (S 8) false (or_f e4 rfl) (or_ne rfl) (or_f e9 rfl)
      · intro z55α S hc hk hp
        have e4 : S 4 = false := (not_yet (j := 4) (q := 2) hc hk rfl rfl rfl rfl)
        have e9 : S 9 = false := (not_yet (j := 9) (q := 6) hc hk rfl rfl rfl rfl)
        refine eq_H (H' := [.obj true z16 z17 (.dat (T_store_Store_repo z45α.1.1 z45α.1.2)) z47.2.2, .obj true z4 z5 (.dat (T_store_Store_repo z50α.1.1 z50α.1.2)) z52.2.2, .obj true z13 0 (.dat T_ref05_State_rep) z9.1, .obj true z40α.2 0 (.dat T_ref05_State_rep) z42.1, .obj true 0 0 (mrep z45α.1.1 (Rep.str) (Rep.int .i64)) z47.2.2.kinds, .obj true 0 0 (mrep z45α.1.2 (T_store_place_rep) (T_api_Value_rep)) z47.2.2.set, .obj true z45α.2 0 (.dat T_ref05_State_rep) z47.1, .obj true 0 0 (mrep z50α.1.1 (Rep.str) (Rep.int .i64)) z52.2.2.kinds, .obj true 0 0 (mrep z50α.1.2 (T_store_place_rep) (T_api_Value_rep)) z52.2.2.set, .obj true z50α.2 0 (.dat T_ref05_State_rep) z52.1, .gone, .gone, (cond (S 8) (.obj true (z55α.2) 0 (.dat T_ref05_State_rep) T_ref05_State_zero) (.gone))]) (by first | exact hB z55α S false (S 8) false e4 rfl e9 | (have q := hB z55α S false (S 8) false e4 rfl e9; simp only [cond_true, cond_false] at q; exact q)) ?_
        refine o_from (bind_eqO h_z56) ?_
        refine o_call rfl rfl rfl callable18 (looks_cons (look_d rfl rfl (pr hp 0 rfl rfl)) (fun _ => rfl) (looks_nil)) (law05_few_ok _) (o_eqO ?_)
        apply h_endA (α := z55α) (z55α.1, z55α.2)
        · exact (.same (.same (.same (.same (.same (.same (.same (.same (.same (.same (.same .nil)))))))))))
        · exact rfl
        · exact rfl
        · exact rfl
        · exact hB (z55α.1, z55α.2) (fun k => S k || Nat.beq k 3) false (S 8) false (or_f e4 rfl) (or_ne rfl) (or_f e9 rfl)
      · intro z55α S hc hk hp
        have e9 : S 9 = false := (not_yet (j := 9) (q := 2) hc hk rfl rfl rfl rfl)
        refine eq_H (H' := [.obj true z16 z17 (.dat (T_store_Store_repo z45α.1.1 z45α.1.2)) z47.2.2, .obj true z4 z5 (.dat (T_store_Store_repo z50α.1.1 z50α.1.2)) z52.2.2, .obj true z13 0 (.dat T_ref05_State_rep) z9.1, .obj true z40α.2 0 (.dat T_ref05_State_rep) z42.1, .obj true 0 0 (mrep z45α.1.1 (Rep.str) (Rep.int .i64)) z47.2.2.kinds, .obj true 0 0 (mrep z45α.1.2 (T_store_place_rep) (T_api_Value_rep)) z47.2.2.set, .obj true z45α.2 0 (.dat T_ref05_State_rep) z47.1, .obj true 0 0 (mrep z50α.1.1 (Rep.str) (Rep.int .i64)) z52.2.2.kinds, .obj true 0 0 (mrep z50α.1.2 (T_store_place_rep) (T_api_Value_rep)) z52.2.2.set, .obj true z50α.2 0 (.dat T_ref05_State_rep) z52.1, .gone, .gone, (cond (S 8) (.obj true (z55α.2) 0 (.dat T_ref05_State_rep) T_ref05_State_zero) (.gone))]) (by first | exact hB z55α S false (S 8) false hk rfl e9 | (have q := hB z55α S false (S 8) false hk rfl e9; simp only [cond_true, cond_false] at q; exact q)) ?_
        refine o_from (bind_eqO h_z57) ?_
        refine o_weak (H' := [.obj true 0 0 (mrep z45α.1.1 (Rep.str) (Rep.int .i64)) z47.2.2.kinds, .obj true 0 0 (mrep z45α.1.2 (T_store_place_rep) (T_api_Value_rep)) z47.2.2.set, .obj true z16 z17 (.dat (T_store_Store_repo z45α.1.1 z45α.1.2)) z47.2.2] ++ ([] ++ [.obj true z4 z5 (.dat (T_store_Store_repo z50α.1.1 z50α.1.2)) z52.2.2, .obj true z13 0 (.dat T_ref05_State_rep) z9.1, .obj true z40α.2 0 (.dat T_ref05_State_rep) z42.1, .obj true z45α.2 0 (.dat T_ref05_State_rep) z47.1, .obj true 0 0 (mrep z50α.1.1 (Rep.str) (Rep.int .i64)) z52.2.2.kinds, .obj true 0 0 (mrep z50α.1.2 (T_store_place_rep) (T_api_Value_rep)) z52.2.2.set, .obj true z50α.2 0 (.dat T_ref05_State_rep) z52.1, .gone, .gone, (cond (S 8) (.obj true (z55α.2) 0 (.dat T_ref05_State_rep) T_ref05_State_zero) (.gone))])) (sub_pick [4, 5, 0, 1, 2, 3, 6, 7, 8, 9, 10, 11, 12] rfl rfl) ?_
        refine o_callU rfl rfl rfl rfl rfl callable16 (looks_cons (look_d rfl rfl (pr hp 0 rfl rfl)) (fun _ => rfl) (looks_cons (look_d rfl rfl (pr hp 1 rfl rfl)) (fun _ => rfl) (looks_cons (look_d rfl rfl (pr hp 2 rfl rfl)) (fun _ => rfl) (looks_nil)))) .nil (law05_run_ok _ _ _ _ z47.2.2 z47.1 z56) (fun _ _ => (wr_c (wr_c (wr_c wr_n)))) (fun z58α => o_eqOH ?_)
        refine o_weak (H' := [.obj true 0 0 (mrep z58α.1 (Rep.str) (Rep.int .i64)) z57.2.2.kinds, .obj true 0 0 (mrep z58α.2 (T_store_place_rep) (T_api_Value_rep)) z57.2.2.set, .obj true z16 z17 (.dat (T_store_Store_repo z58α.1 z58α.2)) z57.2.2, .obj true z4 z5 (.dat (T_store_Store_repo z50α.1.1 z50α.1.2)) z52.2.2, .obj true z13 0 (.dat T_ref05_State_rep) z9.1, .obj true z40α.2 0 (.dat T_ref05_State_rep) z42.1, .obj true z45α.2 0 (.dat T_ref05_State_rep) z47.1, .obj true 0 0 (mrep z50α.1.1 (Rep.str) (Rep.int .i64)) z52.2.2.kinds, .obj true 0 0 (mrep z50α.1.2 (T_store_place_rep) (T_api_Value_rep)) z52.2.2.set, .obj true z50α.2 0 (.dat T_ref05_State_rep) z52.1, .gone, .gone, (cond (S 8) (.obj true (z55α.2) 0 (.dat T_ref05_State_rep) T_ref05_State_zero) (.gone))]) (sub_pick [0, 1, 2, 3, 4, 5, 6, 7, 8, 9, 10, 11, 12] rfl rfl) ?_
        refine o_weak sub_gone ?_
        refine o_weak sub_gone ?_
        refine o_weak (H' := [.obj true z16 z17 (.dat (T_store_Store_repo z58α.1 z58α.2)) z57.2.2, .obj true z4 z5 (.dat (T_store_Store_repo z50α.1.1 z50α.1.2)) z52.2.2, .obj true z13 0 (.dat T_ref05_State_rep) z9.1, .obj true z40α.2 0 (.dat T_ref05_State_rep) z42.1, .gone, .gone, .obj true z45α.2 0 (.dat T_ref05_State_rep) z47.1, .obj true 0 0 (mrep z50α.1.1 (Rep.str) (Rep.int .i64)) z52.2.2.kinds, .obj true 0 0 (mrep z50α.1.2 (T_store_place_rep) (T_api_Value_rep)) z52.2.2.set, .obj true z50α.2 0 (.dat T_ref05_State_rep) z52.1, .obj true 0 0 (mrep z58α.1 (Rep.str) (Rep.int .i64)) z57.2.2.kinds, .obj true 0 0 (mrep z58α.2 (T_store_place_rep) (T_api_Value_rep)) z57.2.2.set, (cond (S 8) (.obj true (z55α.2) 0 (.dat T_ref05_State_rep) T_ref05_State_zero) (.gone))]) (sub_pick [4, 5, 6, 7, 1, 0, 8, 9, 10, 11, 2, 3, 14] rfl rfl) ?_
        apply h_endA (α := z55α) (z58α, z55α.2)
        · exact (.same (.same (.same (.same (.same (.same (.same (.same (.same (.same (.same .nil)))))))))))
        · exact rfl
        · exact rfl
        · exact rfl
        · exact hB (z58α, z55α.2) (fun k => S k || Nat.beq k 4) true (S 8) false (or_i rfl) (or_ne rfl) (or_f e9 rfl)
      · intro z55α S hc hk hp
        have e4 : S 4 = true := (pr hp 0 rfl rfl)
        have e9 : S 9 = false := (not_yet (j := 9) (q := 8) hc hk rfl rfl rfl rfl)
        refine eq_H (H' := [.obj true z16 z17 (.dat (T_store_Store_repo z55α.1.1 z55α.1.2)) z57.2.2, .obj true z4 z5 (.dat (T_store_Store_repo z50α.1.1 z50α.1.2)) z52.2.2, .obj true z13 0 (.dat T_ref05_State_rep) z9.1, .obj true z40α.2 0 (.dat T_ref05_State_rep) z42.1, .gone, .gone, .obj true z45α.2 0 (.dat T_ref05_State_rep) z47.1, .obj true 0 0 (mrep z50α.1.1 (Rep.str) (Rep.int .i64)) z52.2.2.kinds, .obj true 0 0 (mrep z50α.1.2 (T_store_place_rep) (T_api_Value_rep)) z52.2.2.set, .obj true z50α.2 0 (.dat T_ref05_State_rep) z52.1, .obj true 0 0 (mrep (z55α.1.1) (Rep.str) (Rep.int .i64)) z57.2.2.kinds, .obj true 0 0 (mrep (z55α.1.2) (T_store_place_rep) (T_api_Value_rep)) z57.2.2.set, (cond (S 8) (.obj true (z55α.2) 0 (.dat T_ref05_State_rep) T_ref05_State_zero) (.gone))]) (by first | exact hB z55α S true (S 8) false e4 rfl e9 | (have q := hB z55α S true (S 8) false e4 rfl e9; simp only [cond_true, cond_false] at q; exact q)) ?_
        refine o_move rfl rfl guard_none (look_d rfl rfl (pr hp 0 rfl rfl)) (fun _ => rfl) ?_
        apply h_endA (α := z55α) (z55α.1, z55α.2)
        · exact (.same (.same (.same (.same (.same (.same (.same (.same (.same (.same (.same .nil)))))))))))
        · exact rfl
        · exact rfl
        · exact rfl
        · exact hB (z55α.1, z55α.2) (fun k => S k || Nat.beq k 5) true (S 8) false (or_t e4) (or_ne rfl) (or_f e9 rfl)
      · intro z55α S hc hk hp
        have e4 : S 4 = true := (pr (hc 5 _ rfl (pr hp 0 rfl rfl)) 0 rfl rfl)
        have e9 : S 9 = false := (not_yet (j := 9) (q := 1) hc hk rfl rfl rfl rfl)
        refine eq_H (H' := [.obj true z16 z17 (.dat (T_store_Store_repo z55α.1.1 z55α.1.2)) z57.2.2, .obj true z4 z5 (.dat (T_store_Store_repo z50α.1.1 z50α.1.2)) z52.2.2, .obj true z13 0 (.dat T_ref05_State_rep) z9.1, .obj true z40α.2 0 (.dat T_ref05_State_rep) z42.1, .gone, .gone, .obj true z45α.2 0 (.dat T_ref05_State_rep) z47.1, .obj true 0 0 (mrep z50α.1.1 (Rep.str) (Rep.int .i64)) z52.2.2.kinds, .obj true 0 0 (mrep z50α.1.2 (T_store_place_rep) (T_api_Value_rep)) z52.2.2.set, .obj true z50α.2 0 (.dat T_ref05_State_rep) z52.1, .obj true 0 0 (mrep (z55α.1.1) (Rep.str) (Rep.int .i64)) z57.2.2.kinds, .obj true 0 0 (mrep (z55α.1.2) (T_store_place_rep) (T_api_Value_rep)) z57.2.2.set, (cond (S 8) (.obj true (z55α.2) 0 (.dat T_ref05_State_rep) T_ref05_State_zero) (.gone))]) (by first | exact hB z55α S true (S 8) false e4 rfl e9 | (have q := hB z55α S true (S 8) false e4 rfl e9; simp only [cond_true, cond_false] at q; exact q)) ?_
        refine o_fst rfl rfl guard_none (look_d rfl rfl (pr hp 0 rfl rfl)) (fun _ => rfl) ?_
        apply h_endA (α := z55α) (z55α.1, z55α.2)
        · exact (.same (.same (.same (.same (.same (.same (.same (.same (.same (.same (.same .nil)))))))))))
        · exact rfl
        · exact rfl
        · exact rfl
        · exact hB (z55α.1, z55α.2) (fun k => S k || Nat.beq k 6) true (S 8) false (or_t e4) (or_ne rfl) (or_f e9 rfl)
      · intro z55α S hc hk hp
        have e4 : S 4 = true := (pr (hc 5 _ rfl (pr hp 0 rfl rfl)) 0 rfl rfl)
        refine eq_H (H' := [.obj true z16 z17 (.dat (T_store_Store_repo z55α.1.1 z55α.1.2)) z57.2.2, .obj true z4 z5 (.dat (T_store_Store_repo z50α.1.1 z50α.1.2)) z52.2.2, .obj true z13 0 (.dat T_ref05_State_rep) z9.1, .obj true z40α.2 0 (.dat T_ref05_State_rep) z42.1, .gone, .gone, .obj true z45α.2 0 (.dat T_ref05_State_rep) z47.1, .obj true 0 0 (mrep z50α.1.1 (Rep.str) (Rep.int .i64)) z52.2.2.kinds, .obj true 0 0 (mrep z50α.1.2 (T_store_place_rep) (T_api_Value_rep)) z52.2.2.set, .obj true z50α.2 0 (.dat T_ref05_State_rep) z52.1, .obj true 0 0 (mrep (z55α.1.1) (Rep.str) (Rep.int .i64)) z57.2.2.kinds, .obj true 0 0 (mrep (z55α.1.2) (T_store_place_rep) (T_api_Value_rep)) z57.2.2.set, (cond (S 9) (.obj true (z55α.2) 0 (.dat T_ref05_State_rep) z57.1) ((cond (S 8) (.obj true (z55α.2) 0 (.dat T_ref05_State_rep) T_ref05_State_zero) (.gone))))]) (by first | exact hB z55α S true (S 8) (S 9) e4 rfl rfl | (have q := hB z55α S true (S 8) (S 9) e4 rfl rfl; simp only [cond_true, cond_false] at q; exact q)) ?_
        refine o_snd rfl rfl guard_none (look_d rfl rfl (pr hp 0 rfl rfl)) (fun _ => rfl) ?_
        apply h_endA (α := z55α) (z55α.1, z55α.2)
        · exact (.same (.same (.same (.same (.same (.same (.same (.same (.same (.same (.same .nil)))))))))))
        · exact rfl
        · exact rfl
        · exact rfl
        · exact hB (z55α.1, z55α.2) (fun k => S k || Nat.beq k 7) true (S 8) (S 9) (or_t e4) (or_ne rfl) (or_ne rfl)
      · intro z55α S hc hk hp
        have e9 : S 9 = false := (not_yet (j := 9) (q := 0) hc hk rfl rfl rfl rfl)
        refine eq_H (H' := [(cond (S 4) (.obj true z16 z17 (.dat (T_store_Store_repo z55α.1.1 z55α.1.2)) z57.2.2) (.obj true z16 z17 (.dat (T_store_Store_repo z45α.1.1 z45α.1.2)) z47.2.2)), .obj true z4 z5 (.dat (T_store_Store_repo z50α.1.1 z50α.1.2)) z52.2.2, .obj true z13 0 (.dat T_ref05_State_rep) z9.1, .obj true z40α.2 0 (.dat T_ref05_State_rep) z42.1, (cond (S 4) (.gone) (.obj true 0 0 (mrep z45α.1.1 (Rep.str) (Rep.int .i64)) z47.2.2.kinds)), (cond (S 4) (.gone) (.obj true 0 0 (mrep z45α.1.2 (T_store_place_rep) (T_api_Value_rep)) z47.2.2.set)), .obj true z45α.2 0 (.dat T_ref05_State_rep) z47.1, .obj true 0 0 (mrep z50α.1.1 (Rep.str) (Rep.int .i64)) z52.2.2.kinds, .obj true 0 0 (mrep z50α.1.2 (T_store_place_rep) (T_api_Value_rep)) z52.2.2.set, .obj true z50α.2 0 (.dat T_ref05_State_rep) z52.1, (cond (S 4) (.obj true 0 0 (mrep (z55α.1.1) (Rep.str) (Rep.int .i64)) z57.2.2.kinds) (.gone)), (cond (S 4) (.obj true 0 0 (mrep (z55α.1.2) (T_store_place_rep) (T_api_Value_rep)) z57.2.2.set) (.gone)), .gone]) (by first | exact hB z55α S (S 4) false false rfl hk e9 | (have q := hB z55α S (S 4) false false rfl hk e9; simp only [cond_true, cond_false] at q; exact q)) ?_
        refine o_alloc zero27 rfl rfl (fun z59 => ?_)
        refine o_weak (H' := [(cond (S 4) (.obj true z16 z17 (.dat (T_store_Store_repo z55α.1.1 z55α.1.2)) z57.2.2) (.obj true z16 z17 (.dat (T_store_Store_repo z45α.1.1 z45α.1.2)) z47.2.2)), .obj true z4 z5 (.dat (T_store_Store_repo z50α.1.1 z50α.1.2)) z52.2.2, .obj true z13 0 (.dat T_ref05_State_rep) z9.1, .obj true z40α.2 0 (.dat T_ref05_State_rep) z42.1, (cond (S 4) (.gone) (.obj true 0 0 (mrep z45α.1.1 (Rep.str) (Rep.int .i64)) z47.2.2.kinds)), (cond (S 4) (.gone) (.obj true 0 0 (mrep z45α.1.2 (T_store_place_rep) (T_api_Value_rep)) z47.2.2.set)), .obj true z45α.2 0 (.dat T_ref05_State_rep) z47.1, .obj true 0 0 (mrep z50α.1.1 (Rep.str) (Rep.int .i64)) z52.2.2.kinds, .obj true 0 0 (mrep z50α.1.2 (T_store_place_rep) (T_api_Value_rep)) z52.2.2.set, .obj true z50α.2 0 (.dat T_ref05_State_rep) z52.1, (cond (S 4) (.obj true 0 0 (mrep (z55α.1.1) (Rep.str) (Rep.int .i64)) z57.2.2.kinds) (.gone)), (cond (S 4) (.obj true 0 0 (mrep (z55α.1.2) (T_store_place_rep) (T_api_Value_rep)) z57.2.2.set) (.gone)), .obj true z59 0 (.dat T_ref05_State_rep) T_ref05_State_zero]) (sub_pick [1, 2, 3, 4, 5, 6, 7, 8, 9, 10, 11, 12, 0] rfl rfl) ?_
        apply h_endA (α := z55α) (z55α.1, z59)
        · exact (.same (.same (.same (.same (.same (.same (.same (.same (.off hk (.same (.same .nil)))))))))))
        · exact rfl
        · exact rfl
        · exact rfl
        · exact hB (z55α.1, z59) (fun k => S k || Nat.beq k 8) (S 4) true false (or_ne rfl) (or_i rfl) (or_f e9 rfl)
      · intro z55α S hc hk hp
        have e4 : S 4 = true := (pr hp 2 rfl rfl)
        have e8 : S 8 = true := (pr hp 0 rfl rfl)
        refine eq_H (H' := [.obj true z16 z17 (.dat (T_store_Store_repo z55α.1.1 z55α.1.2)) z57.2.2, .obj true z4 z5 (.dat (T_store_Store_repo z50α.1.1 z50α.1.2)) z52.2.2, .obj true z13 0 (.dat T_ref05_State_rep) z9.1, .obj true z40α.2 0 (.dat T_ref05_State_rep) z42.1, .gone, .gone, .obj true z45α.2 0 (.dat T_ref05_State_rep) z47.1, .obj true 0 0 (mrep z50α.1.1 (Rep.str) (Rep.int .i64)) z52.2.2.kinds, .obj true 0 0 (mrep z50α.1.2 (T_store_place_rep) (T_api_Value_rep)) z52.2.2.set, .obj true z50α.2 0 (.dat T_ref05_State_rep) z52.1, .obj true 0 0 (mrep (z55α.1.1) (Rep.str) (Rep.int .i64)) z57.2.2.kinds, .obj true 0 0 (mrep (z55α.1.2) (T_store_place_rep) (T_api_Value_rep)) z57.2.2.set, .obj true (z55α.2) 0 (.dat T_ref05_State_rep) T_ref05_State_zero]) (by first | exact hB z55α S true true false e4 e8 hk | (have q := hB z55α S true true false e4 e8 hk; simp only [cond_true, cond_false] at q; exact q)) ?_
        refine o_weak (H' := [.obj true (z55α.2) 0 (.dat T_ref05_State_rep) T_ref05_State_zero, .obj true z16 z17 (.dat (T_store_Store_repo z55α.1.1 z55α.1.2)) z57.2.2, .obj true z4 z5 (.dat (T_store_Store_repo z50α.1.1 z50α.1.2)) z52.2.2, .obj true z13 0 (.dat T_ref05_State_rep) z9.1, .obj true z40α.2 0 (.dat T_ref05_State_rep) z42.1, .gone, .gone, .obj true z45α.2 0 (.dat T_ref05_State_rep) z47.1, .obj true 0 0 (mrep z50α.1.1 (Rep.str) (Rep.int .i64)) z52.2.2.kinds, .obj true 0 0 (mrep z50α.1.2 (T_store_place_rep) (T_api_Value_rep)) z52.2.2.set, .obj true z50α.2 0 (.dat T_ref05_State_rep) z52.1, .obj true 0 0 (mrep (z55α.1.1) (Rep.str) (Rep.int .i64)) z57.2.2.kinds, .obj true 0 0 (mrep (z55α.1.2) (T_store_place_rep) (T_api_Value_rep)) z57.2.2.set]) (sub_pick [12, 0, 1, 2, 3, 4, 5, 6, 7, 8, 9, 10, 11] rfl rfl) ?_
        refine o_ostore type27 foc_self guard_none (look_d rfl rfl (pr hp 0 rfl rfl)) (fun _ => rfl) (look_d rfl rfl (pr hp 1 rfl rfl)) (fun _ => rfl) ?_
        refine o_weak (H' := [.obj true z16 z17 (.dat (T_store_Store_repo z55α.1.1 z55α.1.2)) z57.2.2, .obj true z4 z5 (.dat (T_store_Store_repo z50α.1.1 z50α.1.2)) z52.2.2, .obj true z13 0 (.dat T_ref05_State_rep) z9.1, .obj true z40α.2 0 (.dat T_ref05_State_rep) z42.1, .gone, .gone, .obj true z45α.2 0 (.dat T_ref05_State_rep) z47.1, .obj true 0 0 (mrep z50α.1.1 (Rep.str) (Rep.int .i64)) z52.2.2.kinds, .obj true 0 0 (mrep z50α.1.2 (T_store_place_rep) (T_api_Value_rep)) z52.2.2.set, .obj true z50α.2 0 (.dat T_ref05_State_rep) z52.1, .obj true 0 0 (mrep (z55α.1.1) (Rep.str) (Rep.int .i64)) z57.2.2.kinds, .obj true 0 0 (mrep (z55α.1.2) (T_store_place_rep) (T_api_Value_rep)) z57.2.2.set, .obj true (z55α.2) 0 (.dat T_ref05_State_rep) z57.1]) (sub_pick [1, 2, 3, 4, 5, 6, 7, 8, 9, 10, 11, 12, 0] rfl rfl) ?_
        refine h_none (n := 81) (d := 90) rfl rfl ?_
        apply h_endA (α := z55α) (z55α.1, z55α.2)
        · exact (.same (.same (.same (.same (.same (.same (.same (.same (.same (.same (.same .nil)))))))))))
        · exact rfl
        · exact rfl
        · exact rfl
        · exact hB (z55α.1, z55α.2) (fun k => S k || Nat.beq k 9) true true true (or_t e4) (or_t e8) (or_i rfl)
      · intro z55α S hc hk hp
        have e4 : S 4 = true := (pr hp 6 rfl rfl)
        have e8 : S 8 = true := (pr hp 10 rfl rfl)
        have e9 : S 9 = true := (pr hp 1 rfl rfl)
        refine eq_H (H' := [.obj true z16 z17 (.dat (T_store_Store_repo z55α.1.1 z55α.1.2)) z57.2.2, .obj true z4 z5 (.dat (T_store_Store_repo z50α.1.1 z50α.1.2)) z52.2.2, .obj true z13 0 (.dat T_ref05_State_rep) z9.1, .obj true z40α.2 0 (.dat T_ref05_State_rep) z42.1, .gone, .gone, .obj true z45α.2 0 (.dat T_ref05_State_rep) z47.1, .obj true 0 0 (mrep z50α.1.1 (Rep.str) (Rep.int .i64)) z52.2.2.kinds, .obj true 0 0 (mrep z50α.1.2 (T_store_place_rep) (T_api_Value_rep)) z52.2.2.set, .obj true z50α.2 0 (.dat T_ref05_State_rep) z52.1, .obj true 0 0 (mrep (z55α.1.1) (Rep.str) (Rep.int .i64)) z57.2.2.kinds, .obj true 0 0 (mrep (z55α.1.2) (T_store_place_rep) (T_api_Value_rep)) z57.2.2.set, .obj true (z55α.2) 0 (.dat T_ref05_State_rep) z57.1]) (by first | exact hB z55α S true true true e4 e8 e9 | (have q := hB z55α S true true true e4 e8 e9; simp only [cond_true, cond_false] at q; exact q)) ?_
        refine o_assign rfl rfl guard_none (look_d rfl rfl (pr hp 0 rfl rfl)) (fun _ => rfl) ?_
        apply h_endA (α := z55α) (z55α.1, z55α.2)
        · exact (.same (.same (.same (.same (.same (.same (.same (.same (.same (.same (.same .nil)))))))))))
        · exact rfl
        · exact rfl
        · exact rfl
        · exact hB (z55α.1, z55α.2) (fun k => S k || Nat.beq k 10) true true true (or_t e4) (or_t e8) (or_t e9)
      refine den_weak (H' := [.obj true z16 z17 (.dat (T_store_Store_repo z55α.1.1 z55α.1.2)) z57.2.2, .obj true z4 z5 (.dat (T_store_Store_repo z50α.1.1 z50α.1.2)) z52.2.2, .obj true z13 0 (.dat T_ref05_State_rep) z9.1, .obj true z40α.2 0 (.dat T_ref05_State_rep) z42.1, .obj true z45α.2 0 (.dat T_ref05_State_rep) z47.1, .obj true 0 0 (mrep z50α.1.1 (Rep.str) (Rep.int .i64)) z52.2.2.kinds, .obj true 0 0 (mrep z50α.1.2 (T_store_place_rep) (T_api_Value_rep)) z52.2.2.set, .obj true z50α.2 0 (.dat T_ref05_State_rep) z52.1, .obj true 0 0 (mrep z55α.1.1 (Rep.str) (Rep.int .i64)) z57.2.2.kinds, .obj true 0 0 (mrep z55α.1.2 (T_store_place_rep) (T_api_Value_rep)) z57.2.2.set, .obj true z55α.2 0 (.dat T_ref05_State_rep) z57.1]) (sub_pick [0, 1, 2, 3, 6, 7, 8, 9, 10, 11, 12] rfl rfl) ?_
      refine den_seq ?_
      refine den_region rfl ?_
      refine o_move rfl rfl guard_none (look_tmp rfl) (fun _ => rfl) ?_
      refine o_move rfl rfl guard_none (look_tmp rfl) (fun _ => rfl) ?_
      refine o_move rfl rfl (guard_some rfl rfl rfl) (look_tmp rfl) (fun _ => rfl) ?_
      refine o_pick rfl rfl guard_none (look_tmp rfl) (look_tmp rfl) look_bool (fun _ => rfl) (fun h1 h2 => pick_t ((fun _ => rfl) h1) h2) (fun _ _ => rfl) ?_
      refine o_move rfl rfl guard_none (look_tmp rfl) (fun _ => rfl) ?_
      refine o_move rfl rfl (guard_some rfl rfl rfl) (look_tmp rfl) (fun _ => rfl) ?_
      refine o_pick rfl rfl guard_none (look_tmp rfl) (look_tmp rfl) look_bool (fun _ => rfl) (fun h1 h2 => pick_t ((fun _ => rfl) h1) h2) (fun _ _ => rfl) ?_
      refine o_move rfl rfl guard_none (look_tmp rfl) (fun _ => rfl) ?_
      refine o_move rfl rfl (guard_some rfl rfl rfl) (look_tmp rfl) (fun _ => rfl) ?_
      refine o_pick rfl rfl guard_none (look_tmp rfl) (look_tmp rfl) look_bool (fun _ => rfl) (fun h1 h2 => pick_t ((fun _ => rfl) h1) h2) (fun _ _ => rfl) ?_
      refine o_move rfl rfl guard_none (look_tmp rfl) (fun _ => rfl) ?_
      refine o_move rfl rfl (guard_some rfl rfl rfl) (look_tmp rfl) (fun _ => rfl) ?_
      refine o_pick rfl rfl guard_none (look_tmp rfl) (look_tmp rfl) look_bool (fun _ => rfl) (fun h1 h2 => pick_t ((fun _ => rfl) h1) h2) (fun _ _ => rfl) ?_
      refine o_assign rfl rfl guard_none (look_tmp rfl) (fun _ => rfl) ?_
      refine o_lt (fun z60 => ?_)
      refine o_end ?_
      refine den_code_ret ?_
      exact dene_res (res1 rfl (rv_tmp rfl))

end Go.Proofs.Ytijfebipalhhjaa.M
