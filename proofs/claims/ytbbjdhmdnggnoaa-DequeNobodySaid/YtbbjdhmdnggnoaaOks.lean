/- That the Go functions answer as the plain ones: written by gen2.py. -/
import Derived.Test.YtbbjdhmdnggnoaaOks1
namespace Go.Proofs.Ytbbjdhmdnggnoaa.M
open Go.Eng Go
set_option linter.unusedVariables false

set_option maxHeartbeats 1000000 in
theorem law34_QuotaClones_ok  (size_0 : Int) (rate_1 : Int) (a_2 : (List T_law34_Step)) (b_3 : (List T_law34_Step)) : FunOk Try.prog 5 [⟨Rep.int .i64, size_0, true⟩, ⟨Rep.int .i64, rate_1, true⟩, ⟨(T_law34_Step_rep).slice, a_2, true⟩, ⟨(T_law34_Step_rep).slice, b_3, true⟩] (law34_QuotaClones size_0 rate_1 a_2 b_3) (Rep.bool) := by
  refine fun_ok Try.func5 rfl Try.ntmps5 rfl (all_cons rfl (all_cons rfl (all_cons rfl (all_cons rfl all_nil)))) (fun w0 ok0 => ?_)
  refine den_seq ?_
  refine den_region rfl ?_
  refine o_assign rfl rfl guard_none look_bool (fun _ => rfl) ?_
  refine o_end ?_
  refine den_seq ?_
  refine den_seq ?_
  refine den_region rfl ?_
  refine o_call rfl rfl rfl callable8 (looks_nil) (law34_alive_ok) (fun z1 => ?_)
  refine o_not rfl rfl guard_none (look_tmp rfl) (fun _ => rfl) ?_
  refine o_end ?_
  refine den_cond (look_tmp rfl) ?_ ?_
  · refine den_seq ?_
    refine den_region rfl ?_
    refine o_assign rfl rfl guard_none look_bool (fun _ => rfl) ?_
    refine o_end ?_
    refine den_code_ret ?_
    refine dene_ret ?_
    exact dene_res (res1 rfl (rv_tmp rfl))
  · refine den_skip ?_
    refine den_seq ?_
    refine den_region rfl ?_
    refine o_move rfl rfl guard_none (look_tmp rfl) (fun _ => rfl) ?_
    refine o_move rfl rfl guard_none (look_tmp rfl) (fun _ => rfl) ?_
    refine o_weak (H' := [] ++ ([] ++ [])) (sub_pick [] rfl rfl) ?_
    refine o_callU rfl rfl rfl rfl rfl callable9 (looks_cons (look_tmp rfl) (fun _ => rfl) (looks_cons (look_tmp rfl) (fun _ => rfl) (looks_nil))) .nil (quota_New_ok size_0 rate_1) (fun _ _ => (wr_c wr_n)) (fun z3α z2 => ?_)
    obtain ⟨z4, z5⟩ := z3α
    refine o_weak (H' := [.obj true z4 z5 (.dat T_quota_Bucket_rep) z2]) (sub_pick [0] rfl rfl) ?_
    refine o_move rfl rfl guard_none (look_tmp rfl) (fun _ => rfl) ?_
    refine o_move rfl rfl guard_none (look_tmp rfl) (fun _ => rfl) ?_
    refine o_weak (H' := [] ++ ([] ++ [.obj true z4 z5 (.dat T_quota_Bucket_rep) z2])) (sub_pick [0] rfl rfl) ?_
    refine o_callU rfl rfl rfl rfl rfl callable9 (looks_cons (look_tmp rfl) (fun _ => rfl) (looks_cons (look_tmp rfl) (fun _ => rfl) (looks_nil))) .nil (quota_New_ok size_0 rate_1) (fun _ _ => (wr_c wr_n)) (fun z7α z6 => ?_)
    obtain ⟨z8, z9⟩ := z7α
    refine o_weak (H' := [.obj true z8 z9 (.dat T_quota_Bucket_rep) z6, .obj true z4 z5 (.dat T_quota_Bucket_rep) z2]) (sub_pick [0, 1] rfl rfl) ?_
    refine o_assign rfl rfl guard_none (look_tmp rfl) (fun _ => rfl) ?_
    refine o_assign rfl rfl guard_none (look_tmp rfl) (fun _ => rfl) ?_
    refine o_end ?_
    refine den_seq ?_
    refine den_region rfl ?_
    refine o_move rfl rfl guard_none (look_tmp rfl) (fun _ => rfl) ?_
    refine o_call rfl rfl rfl callable11 (looks_cons (look_tmp rfl) (fun _ => rfl) (looks_nil)) (law34_few_ok _) (fun z10 => ?_)
    refine o_move rfl rfl guard_none (look_tmp rfl) (fun _ => rfl) ?_
    refine o_call rfl rfl rfl callable11 (looks_cons (look_tmp rfl) (fun _ => rfl) (looks_nil)) (law34_few_ok _) (fun z11 => ?_)
    refine o_assign rfl rfl guard_none (look_tmp rfl) (fun _ => rfl) ?_
    refine o_assign rfl rfl guard_none (look_tmp rfl) (fun _ => rfl) ?_
    refine o_end ?_
    refine den_seq ?_
    refine den_seq ?_
    refine den_region rfl ?_
    refine o_assign rfl rfl guard_none (look_int rfl) (fun _ => rfl) ?_
    refine o_end ?_
    refine den_both (fun z12 => [(3, ⟨(T_law34_Step_rep).slice, z11, true⟩), (9, ⟨Rep.addr, (z4, z5), true⟩), (10, ⟨Rep.addr, (z8, z9), true⟩)]) (fun z12 => [.obj true z8 z9 (.dat T_quota_Bucket_rep) z12.1, .obj true z4 z5 (.dat T_quota_Bucket_rep) z12.2]) ?_ (fun z12 => ?_)
    · refine den_block ?_
      refine den_loop (law34_QuotaClones_L3b z10) (fun z88 => [(11, ⟨Rep.int .i64, z88.1, true⟩), (2, ⟨(T_law34_Step_rep).slice, z10, true⟩), (3, ⟨(T_law34_Step_rep).slice, z11, true⟩), (9, ⟨Rep.addr, (z4, z5), true⟩), (10, ⟨Rep.addr, (z8, z9), true⟩)]) (fun z88 => [.obj true z8 z9 (.dat T_quota_Bucket_rep) z88.2.1, .obj true z4 z5 (.dat T_quota_Bucket_rep) z88.2.2]) (0, z6, z2) (fun z88 => ?_) ((sub_env (sube_cons rfl (sube_cons rfl (sube_cons rfl (sube_cons rfl (sube_cons rfl (sube_nil))))))))
      refine den_seq ?_
      refine den_seq ?_
      refine den_region rfl ?_
      refine o_move rfl rfl guard_none (look_tmp rfl) (fun _ => rfl) ?_
      refine o_move rfl rfl guard_none (look_tmp rfl) (fun _ => rfl) ?_
      refine o_llen Try.underlying22 rfl rfl guard_none (look_tmp rfl) (fun _ => rfl) ?_
      refine o_lss rfl rfl guard_none (look_tmp rfl) (look_tmp rfl) (fun _ => rfl) (fun _ => rfl) ?_
      refine o_end ?_
      refine den_cond (look_tmp rfl) ?_ ?_
      · refine den_skip ?_
        refine den_seq ?_
        refine den_block ?_
        refine den_seq ?_
        refine den_region rfl ?_
        refine o_move rfl rfl guard_none (look_tmp rfl) (fun _ => rfl) ?_
        refine o_move rfl rfl guard_none (look_tmp rfl) (fun _ => rfl) ?_
        refine o_move rfl rfl guard_none (look_tmp rfl) (fun _ => rfl) ?_
        refine o_iaddr Try.underlying22 type33 rfl rfl (look_tmp rfl) (look_tmp rfl) rfl rfl (fun z89 => ?_)
        refine o_fptr field33_2 type2 (by decide) T_law34_Step_foc2 rfl rfl guard_none (look_tmp rfl) (fun _ => rfl) ?_
        refine o_load type2 rfl rfl guard_none (look_tmp rfl) (fun _ => rfl) ?_
        refine o_weak (H' := [] ++ ([.obj true z4 z5 (.dat T_quota_Bucket_rep) z88.2.2] ++ [.obj true z8 z9 (.dat T_quota_Bucket_rep) z88.2.1])) (sub_pick [1, 0] rfl rfl) ?_
        refine o_callU rfl rfl rfl rfl rfl callable17 (looks_cons (look_tmp rfl) (fun _ => rfl) (looks_cons (look_tmp rfl) (fun _ => rfl) (looks_nil))) (.cons .nil) (quota_Bucket_At_ok _ _ z88.2.2 z89.N) (fun _ _ => wr_n) (fun z91α z90 => ?_)
        refine o_weak (H' := [.obj true z4 z5 (.dat T_quota_Bucket_rep) z88.2.2, .obj true z8 z9 (.dat T_quota_Bucket_rep) z88.2.1]) (sub_pick [0, 1] rfl rfl) ?_
        refine o_end ?_
        refine den_seq ?_
        refine den_open (fun z92 h_z92 => ?_)
        refine den_open (fun z93 h_z93 => ?_)
        refine den_open (fun z94 h_z94 => ?_)
        refine den_draw [(49, ⟨Rep.addr, (z4, z5), true⟩), (50, ⟨(T_law34_Step_rep).slice, z10, true⟩), (51, ⟨Rep.int .i64, z88.1, true⟩), (52, ⟨(T_law34_Step_rep).ptrTo, z92, true⟩), (53, ⟨(Rep.int .i64).ptrTo, z92.N, true⟩), (54, ⟨Rep.int .i64, z92.N, true⟩), (55, ⟨(T_law34_Step_rep).slice, z10, true⟩), (56, ⟨Rep.int .i64, z88.1, true⟩), (57, ⟨(T_law34_Step_rep).ptrTo, z93, true⟩), (58, ⟨(Rep.int .i64).ptrTo, z93.At, true⟩), (59, ⟨Rep.int .i64, z93.At, true⟩), (60, ⟨Rep.pair (Rep.int .i64) (Rep.bool), (z94.1, z94.2), true⟩)] mixed rfl rfl ⟨?_, ?_, ?_, ?_, ?_, ?_, ?_, ?_, ?_, ?_, ?_, ?_, trivial⟩ ?_
        · intro S hc hk hp
          refine o_move rfl rfl guard_none (look_o rfl rfl) (fun _ => rfl) ?_
          exact d_end rfl rfl rfl
        · intro S hc hk hp
          refine o_move rfl rfl guard_none (look_o rfl rfl) (fun _ => rfl) ?_
          exact d_end rfl rfl rfl
        · intro S hc hk hp
          refine o_move rfl rfl guard_none (look_o rfl rfl) (fun _ => rfl) ?_
          exact d_end rfl rfl rfl
        · intro S hc hk hp
          refine o_from (bind_eqO h_z92) ?_
          refine o_iaddr Try.underlying22 type33 rfl rfl (look_d rfl rfl (pr hp 0 rfl rfl)) (look_d rfl rfl (pr hp 1 rfl rfl)) rfl rfl (o_eqO ?_)
          exact d_end rfl rfl rfl
        · intro S hc hk hp
          refine o_fptr field33_2 type2 (by decide) T_law34_Step_foc2 rfl rfl guard_none (look_d rfl rfl (pr hp 0 rfl rfl)) (fun _ => rfl) ?_
          exact d_end rfl rfl rfl
        · intro S hc hk hp
          refine o_load type2 rfl rfl guard_none (look_d rfl rfl (pr hp 0 rfl rfl)) (fun _ => rfl) ?_
          exact d_end rfl rfl rfl
        · intro S hc hk hp
          refine o_move rfl rfl guard_none (look_o rfl rfl) (fun _ => rfl) ?_
          exact d_end rfl rfl rfl
        · intro S hc hk hp
          refine o_move rfl rfl guard_none (look_o rfl rfl) (fun _ => rfl) ?_
          exact d_end rfl rfl rfl
        · intro S hc hk hp
          refine o_from (bind_eqO h_z93) ?_
          refine o_iaddr Try.underlying22 type33 rfl rfl (look_d rfl rfl (pr hp 0 rfl rfl)) (look_d rfl rfl (pr hp 1 rfl rfl)) rfl rfl (o_eqO ?_)
          exact d_end rfl rfl rfl
        · intro S hc hk hp
          refine o_fptr field33_1 type2 (by decide) T_law34_Step_foc1 rfl rfl guard_none (look_d rfl rfl (pr hp 0 rfl rfl)) (fun _ => rfl) ?_
          exact d_end rfl rfl rfl
        · intro S hc hk hp
          refine o_load type2 rfl rfl guard_none (look_d rfl rfl (pr hp 0 rfl rfl)) (fun _ => rfl) ?_
          exact d_end rfl rfl rfl
        · intro S hc hk hp
          refine o_from (bind_eqO h_z94) ?_
          refine o_weak (H' := [] ++ ([.obj true z4 z5 (.dat T_quota_Bucket_rep) z88.2.2] ++ [.obj true z8 z9 (.dat T_quota_Bucket_rep) z88.2.1])) (sub_pick [0, 1] rfl rfl) ?_
          refine o_callU rfl rfl rfl rfl rfl callable14 (looks_cons (look_d rfl rfl (pr hp 0 rfl rfl)) (fun _ => rfl) (looks_cons (look_d rfl rfl (pr hp 1 rfl rfl)) (fun _ => rfl) (looks_cons (look_d rfl rfl (pr hp 2 rfl rfl)) (fun _ => rfl) (looks_nil)))) (.cons .nil) (quota_Bucket_Wait_ok _ _ z88.2.2 z92.N z93.At) (fun _ _ => wr_n) (fun _ => o_eqOH ?_)
          refine o_weak (H' := [.obj true z4 z5 (.dat T_quota_Bucket_rep) z88.2.2, .obj true z8 z9 (.dat T_quota_Bucket_rep) z88.2.1]) (sub_pick [0, 1] rfl rfl) ?_
          exact d_end rfl rfl rfl
        refine den_seq ?_
        refine den_open (fun z96 h_z96 => ?_)
        refine den_open (fun z97 h_z97 => ?_)
        refine den_open (fun z98 h_z98 => ?_)
        refine den_open (fun z100 h_z100 => ?_)
        refine den_open (fun z101 h_z101 => ?_)
        refine den_open (fun z102 h_z102 => ?_)
        have hB : ∀ (S : Nat → Bool) (b11 b23 : Bool), S 11 = b11 → S 23 = b23 → ((fun S => [.obj true z4 z5 (.dat T_quota_Bucket_rep) (cond (S 11) z98.2 z88.2.2), .obj true z8 z9 (.dat T_quota_Bucket_rep) (cond (S 23) z102.2 z88.2.1)] : (Nat → Bool) → List Go.Eng.Item) S) = ([.obj true z4 z5 (.dat T_quota_Bucket_rep) (cond b11 z98.2 z88.2.2), .obj true z8 z9 (.dat T_quota_Bucket_rep) (cond b23 z102.2 z88.2.1)] : List Go.Eng.Item) := fun S b11 b23 h11 h23 => by subst h11; subst h23; rfl
        refine den_drawH (H' := [.obj true z4 z5 (.dat T_quota_Bucket_rep) z98.2, .obj true z8 z9 (.dat T_quota_Bucket_rep) z102.2]) [(61, ⟨Rep.addr, (z4, z5), true⟩), (62, ⟨(T_law34_Step_rep).slice, z10, true⟩), (63, ⟨Rep.int .i64, z88.1, true⟩), (64, ⟨(T_law34_Step_rep).ptrTo, z96, true⟩), (65, ⟨(Rep.int .i64).ptrTo, z96.At, true⟩), (66, ⟨Rep.int .i64, z96.At, true⟩), (67, ⟨(T_law34_Step_rep).slice, z10, true⟩), (68, ⟨Rep.int .i64, z88.1, true⟩), (69, ⟨(T_law34_Step_rep).ptrTo, z97, true⟩), (70, ⟨(Rep.int .i64).ptrTo, z97.N, true⟩), (71, ⟨Rep.int .i64, z97.N, true⟩), (72, ⟨Rep.bool, z98.1, true⟩), (73, ⟨Rep.addr, (z8, z9), true⟩), (74, ⟨(T_law34_Step_rep).slice, z10, true⟩), (75, ⟨Rep.int .i64, z88.1, true⟩), (76, ⟨(T_law34_Step_rep).ptrTo, z100, true⟩), (77, ⟨(Rep.int .i64).ptrTo, z100.At, true⟩), (78, ⟨Rep.int .i64, z100.At, true⟩), (79, ⟨(T_law34_Step_rep).slice, z10, true⟩), (80, ⟨Rep.int .i64, z88.1, true⟩), (81, ⟨(T_law34_Step_rep).ptrTo, z101, true⟩), (82, ⟨(Rep.int .i64).ptrTo, z101.N, true⟩), (83, ⟨Rep.int .i64, z101.N, true⟩), (84, ⟨Rep.bool, z102.1, true⟩), (12, ⟨Rep.bool, z98.1, true⟩), (13, ⟨Rep.bool, z102.1, true⟩)] (fun S => [.obj true z4 z5 (.dat T_quota_Bucket_rep) (cond (S 11) z98.2 z88.2.2), .obj true z8 z9 (.dat T_quota_Bucket_rep) (cond (S 23) z102.2 z88.2.1)]) mixed rfl rfl rfl (fun S hS => hB S true true (hS 11 (by decide)) (hS 23 (by decide))) ⟨?_, ?_, ?_, ?_, ?_, ?_, ?_, ?_, ?_, ?_, ?_, ?_, ?_, ?_, ?_, ?_, ?_, ?_, ?_, ?_, ?_, ?_, ?_, ?_, ?_, ?_, trivial⟩ ?_
        · intro S hc hk hp
          refine o_move rfl rfl guard_none (look_o rfl rfl) (fun _ => rfl) ?_
          exact h_end rfl rfl rfl (hB (fun k => S k || Nat.beq k 0) (S 11) (S 23) (or_ne rfl) (or_ne rfl))
        · intro S hc hk hp
          refine o_move rfl rfl guard_none (look_o rfl rfl) (fun _ => rfl) ?_
          exact h_end rfl rfl rfl (hB (fun k => S k || Nat.beq k 1) (S 11) (S 23) (or_ne rfl) (or_ne rfl))
        · intro S hc hk hp
          refine o_move rfl rfl guard_none (look_o rfl rfl) (fun _ => rfl) ?_
          exact h_end rfl rfl rfl (hB (fun k => S k || Nat.beq k 2) (S 11) (S 23) (or_ne rfl) (or_ne rfl))
        · intro S hc hk hp
          refine o_from (bind_eqO h_z96) ?_
          refine o_iaddr Try.underlying22 type33 rfl rfl (look_d rfl rfl (pr hp 0 rfl rfl)) (look_d rfl rfl (pr hp 1 rfl rfl)) rfl rfl (o_eqO ?_)
          exact h_end rfl rfl rfl (hB (fun k => S k || Nat.beq k 3) (S 11) (S 23) (or_ne rfl) (or_ne rfl))
        · intro S hc hk hp
          refine o_fptr field33_1 type2 (by decide) T_law34_Step_foc1 rfl rfl guard_none (look_d rfl rfl (pr hp 0 rfl rfl)) (fun _ => rfl) ?_
          exact h_end rfl rfl rfl (hB (fun k => S k || Nat.beq k 4) (S 11) (S 23) (or_ne rfl) (or_ne rfl))
        · intro S hc hk hp
          refine o_load type2 rfl rfl guard_none (look_d rfl rfl (pr hp 0 rfl rfl)) (fun _ => rfl) ?_
          exact h_end rfl rfl rfl (hB (fun k => S k || Nat.beq k 5) (S 11) (S 23) (or_ne rfl) (or_ne rfl))
        · intro S hc hk hp
          refine o_move rfl rfl guard_none (look_o rfl rfl) (fun _ => rfl) ?_
          exact h_end rfl rfl rfl (hB (fun k => S k || Nat.beq k 6) (S 11) (S 23) (or_ne rfl) (or_ne rfl))
        · intro S hc hk hp
          refine o_move rfl rfl guard_none (look_o rfl rfl) (fun _ => rfl) ?_
          exact h_end rfl rfl rfl (hB (fun k => S k || Nat.beq k 7) (S 11) (S 23) (or_ne rfl) (or_ne rfl))
        · intro S hc hk hp
          refine o_from (bind_eqO h_z97) ?_
          refine o_iaddr Try.underlying22 type33 rfl rfl (look_d rfl rfl (pr hp 0 rfl rfl)) (look_d rfl rfl (pr hp 1 rfl rfl)) rfl rfl (o_eqO ?_)
          exact h_end rfl rfl rfl (hB (fun k => S k || Nat.beq k 8) (S 11) (S 23) (or_ne rfl) (or_ne rfl))
        · intro S hc hk hp
          refine o_fptr field33_2 type2 (by decide) T_law34_Step_foc2 rfl rfl guard_none (look_d rfl rfl (pr hp 0 rfl rfl)) (fun _ => rfl) ?_
          exact h_end rfl rfl rfl (hB (fun k => S k || Nat.beq k 9) (S 11) (S 23) (or_ne rfl) (or_ne rfl))
        · intro S hc hk hp
          refine o_load type2 rfl rfl guard_none (look_d rfl rfl (pr hp 0 rfl rfl)) (fun _ => rfl) ?_
          exact h_end rfl rfl rfl (hB (fun k => S k || Nat.beq k 10) (S 11) (S 23) (or_ne rfl) (or_ne rfl))
        · intro S hc hk hp
          refine o_from (bind_eqO h_z98) ?_
          refine eq_H (H' := [.obj true z4 z5 (.dat T_quota_Bucket_rep) z88.2.2, .obj true z8 z9 (.dat T_quota_Bucket_rep) (cond (S 23) z102.2 z88.2.1)]) (hB S false (S 23) hk rfl) ?_
          refine o_weak (H' := [.obj true z4 z5 (.dat T_quota_Bucket_rep) z88.2.2] ++ ([] ++ [.obj true z8 z9 (.dat T_quota_Bucket_rep) (cond (S 23) z102.2 z88.2.1)])) (sub_pick [0, 1] rfl rfl) ?_
          refine o_callU rfl rfl rfl rfl rfl callable13 (looks_cons (look_d rfl rfl (pr hp 0 rfl rfl)) (fun _ => rfl) (looks_cons (look_d rfl rfl (pr hp 1 rfl rfl)) (fun _ => rfl) (looks_cons (look_d rfl rfl (pr hp 2 rfl rfl)) (fun _ => rfl) (looks_nil)))) .nil (quota_Bucket_Take_ok _ _ z88.2.2 z96.At z97.N) (fun _ _ => (wr_c wr_n)) (fun _ => o_eqOH ?_)
          refine o_weak (H' := [.obj true z4 z5 (.dat T_quota_Bucket_rep) z98.2, .obj true z8 z9 (.dat T_quota_Bucket_rep) (cond (S 23) z102.2 z88.2.1)]) (sub_pick [0, 1] rfl rfl) ?_
          exact h_end rfl rfl rfl (hB (fun k => S k || Nat.beq k 11) true (S 23) (or_i rfl) (or_ne rfl))
        · intro S hc hk hp
          refine o_move rfl rfl guard_none (look_o rfl rfl) (fun _ => rfl) ?_
          exact h_end rfl rfl rfl (hB (fun k => S k || Nat.beq k 12) (S 11) (S 23) (or_ne rfl) (or_ne rfl))
        · intro S hc hk hp
          refine o_move rfl rfl guard_none (look_o rfl rfl) (fun _ => rfl) ?_
          exact h_end rfl rfl rfl (hB (fun k => S k || Nat.beq k 13) (S 11) (S 23) (or_ne rfl) (or_ne rfl))
        · intro S hc hk hp
          refine o_move rfl rfl guard_none (look_o rfl rfl) (fun _ => rfl) ?_
          exact h_end rfl rfl rfl (hB (fun k => S k || Nat.beq k 14) (S 11) (S 23) (or_ne rfl) (or_ne rfl))
        · intro S hc hk hp
          refine o_from (bind_eqO h_z100) ?_
          refine o_iaddr Try.underlying22 type33 rfl rfl (look_d rfl rfl (pr hp 0 rfl rfl)) (look_d rfl rfl (pr hp 1 rfl rfl)) rfl rfl (o_eqO ?_)
          exact h_end rfl rfl rfl (hB (fun k => S k || Nat.beq k 15) (S 11) (S 23) (or_ne rfl) (or_ne rfl))
        · intro S hc hk hp
          refine o_fptr field33_1 type2 (by decide) T_law34_Step_foc1 rfl rfl guard_none (look_d rfl rfl (pr hp 0 rfl rfl)) (fun _ => rfl) ?_
          exact h_end rfl rfl rfl (hB (fun k => S k || Nat.beq k 16) (S 11) (S 23) (or_ne rfl) (or_ne rfl))
        · intro S hc hk hp
          refine o_load type2 rfl rfl guard_none (look_d rfl rfl (pr hp 0 rfl rfl)) (fun _ => rfl) ?_
          exact h_end rfl rfl rfl (hB (fun k => S k || Nat.beq k 17) (S 11) (S 23) (or_ne rfl) (or_ne rfl))
        · intro S hc hk hp
          refine o_move rfl rfl guard_none (look_o rfl rfl) (fun _ => rfl) ?_
          exact h_end rfl rfl rfl (hB (fun k => S k || Nat.beq k 18) (S 11) (S 23) (or_ne rfl) (or_ne rfl))
        · intro S hc hk hp
          refine o_move rfl rfl guard_none (look_o rfl rfl) (fun _ => rfl) ?_
          exact h_end rfl rfl rfl (hB (fun k => S k || Nat.beq k 19) (S 11) (S 23) (or_ne rfl) (or_ne rfl))
        · intro S hc hk hp
          refine o_from (bind_eqO h_z101) ?_
          refine o_iaddr Try.underlying22 type33 rfl rfl (look_d rfl rfl (pr hp 0 rfl rfl)) (look_d rfl rfl (pr hp 1 rfl rfl)) rfl rfl (o_eqO ?_)
          exact h_end rfl rfl rfl (hB (fun k => S k || Nat.beq k 20) (S 11) (S 23) (or_ne rfl) (or_ne rfl))
        · intro S hc hk hp
          refine o_fptr field33_2 type2 (by decide) T_law34_Step_foc2 rfl rfl guard_none (look_d rfl rfl (pr hp 0 rfl rfl)) (fun _ => rfl) ?_
          exact h_end rfl rfl rfl (hB (fun k => S k || Nat.beq k 21) (S 11) (S 23) (or_ne rfl) (or_ne rfl))
        · intro S hc hk hp
          refine o_load type2 rfl rfl guard_none (look_d rfl rfl (pr hp 0 rfl rfl)) (fun _ => rfl) ?_
          exact h_end rfl rfl rfl (hB (fun k => S k || Nat.beq k 22) (S 11) (S 23) (or_ne rfl) (or_ne rfl))
        · intro S hc hk hp
          refine o_from (bind_eqO h_z102) ?_
          refine eq_H (H' := [.obj true z4 z5 (.dat T_quota_Bucket_rep) (cond (S 11) z98.2 z88.2.2), .obj true z8 z9 (.dat T_quota_Bucket_rep) z88.2.1]) (hB S (S 11) false rfl hk) ?_
          refine o_weak (H' := [.obj true z8 z9 (.dat T_quota_Bucket_rep) z88.2.1] ++ ([] ++ [.obj true z4 z5 (.dat T_quota_Bucket_rep) (cond (S 11) z98.2 z88.2.2)])) (sub_pick [1, 0] rfl rfl) ?_
          refine o_callU rfl rfl rfl rfl rfl callable13 (looks_cons (look_d rfl rfl (pr hp 0 rfl rfl)) (fun _ => rfl) (looks_cons (look_d rfl rfl (pr hp 1 rfl rfl)) (fun _ => rfl) (looks_cons (look_d rfl rfl (pr hp 2 rfl rfl)) (fun _ => rfl) (looks_nil)))) .nil (quota_Bucket_Take_ok _ _ z88.2.1 z100.At z101.N) (fun _ _ => (wr_c wr_n)) (fun _ => o_eqOH ?_)
          refine o_weak (H' := [.obj true z4 z5 (.dat T_quota_Bucket_rep) (cond (S 11) z98.2 z88.2.2), .obj true z8 z9 (.dat T_quota_Bucket_rep) z102.2]) (sub_pick [1, 0] rfl rfl) ?_
          exact h_end rfl rfl rfl (hB (fun k => S k || Nat.beq k 23) (S 11) true (or_ne rfl) (or_i rfl))
        · intro S hc hk hp
          refine o_assign rfl rfl guard_none (look_d rfl rfl (pr hp 0 rfl rfl)) (fun _ => rfl) ?_
          exact h_end rfl rfl rfl (hB (fun k => S k || Nat.beq k 24) (S 11) (S 23) (or_ne rfl) (or_ne rfl))
        · intro S hc hk hp
          refine o_assign rfl rfl guard_none (look_d rfl rfl (pr hp 0 rfl rfl)) (fun _ => rfl) ?_
          exact h_end rfl rfl rfl (hB (fun k => S k || Nat.beq k 25) (S 11) (S 23) (or_ne rfl) (or_ne rfl))
        refine den_seq ?_
        refine den_region rfl ?_
        refine o_move rfl rfl guard_none (look_tmp rfl) (fun _ => rfl) ?_
        refine o_move rfl rfl guard_none (look_tmp rfl) (fun _ => rfl) ?_
        refine o_bneq Try.underlying4 rfl rfl guard_none (look_tmp rfl) (look_tmp rfl) (fun _ => rfl) (fun _ => rfl) ?_
        refine o_end ?_
        refine den_cond (look_tmp rfl) ?_ ?_
        · refine den_seq ?_
          refine den_region rfl ?_
          refine o_assign rfl rfl guard_none look_bool (fun _ => rfl) ?_
          refine o_end ?_
          refine den_code_ret ?_
          refine dene_ret ?_
          refine dene_loop (by simp) ?_
          refine dene_ret ?_
          refine dene_both (by simp) ?_
          refine dene_ret ?_
          exact dene_res (res1 rfl (rv_tmp rfl))
        · refine den_skip ?_
          refine den_blkend ?_
          refine den_region rfl ?_
          refine o_move rfl rfl guard_none (look_tmp rfl) (fun _ => rfl) ?_
          refine o_add rfl rfl guard_none (look_tmp rfl) (look_int rfl) (fun _ => rfl) (fun _ => rfl) ?_
          refine o_assign rfl rfl guard_none (look_tmp rfl) (fun _ => rfl) ?_
          refine o_end ?_
          refine den_next ((Sub.trans (sub_pick [1, 0] rfl rfl) (sub_env (sube_cons rfl (sube_cons rfl (sube_cons rfl (sube_cons rfl (sube_cons rfl (sube_nil)))))))))
      · refine den_code_exit ?_
        refine dene_out rfl ?_
        refine dene_loop (by simp) ?_
        refine dene_to rfl ?_
        refine den_endl ((sub_env (sube_cons rfl (sube_cons rfl (sube_cons rfl (sube_nil))))))
    refine den_seq ?_
    refine den_region rfl ?_
    refine o_move rfl rfl guard_none (look_tmp rfl) (fun _ => rfl) ?_
    refine o_weak (H' := [] ++ ([.obj true z4 z5 (.dat T_quota_Bucket_rep) z12.2] ++ [.obj true z8 z9 (.dat T_quota_Bucket_rep) z12.1])) (sub_pick [1, 0] rfl rfl) ?_
    refine o_callU rfl rfl rfl rfl rfl callable16 (looks_cons (look_tmp rfl) (fun _ => rfl) (looks_nil)) (.cons .nil) (quota_Bucket_Clone_ok _ _ z12.2) (fun _ _ => (wr_ol (fun _ => (wr_c wr_n)) wr_n)) (fun z14α z13 => ?_)
    obtain ⟨z15, z16⟩ := z14α
    rcases z13 with _ | z17
    · refine o_weak (H' := [.obj true z4 z5 (.dat T_quota_Bucket_rep) z12.2, .obj true z8 z9 (.dat T_quota_Bucket_rep) z12.1]) (sub_pick [0, 1] rfl rfl) ?_
      refine o_asnil ?_
      refine o_optn ?_
      refine o_assign rfl rfl guard_none (look_tmp rfl) (fun _ => rfl) ?_
      refine o_end ?_
      refine den_seq ?_
      refine den_region rfl ?_
      refine o_move rfl rfl guard_none (look_tmp rfl) (fun _ => rfl) ?_
      refine o_weak (H' := [.obj true z4 z5 (.dat T_quota_Bucket_rep) z12.2] ++ ([] ++ [.obj true z8 z9 (.dat T_quota_Bucket_rep) z12.1])) (sub_pick [0, 1] rfl rfl) ?_
      refine o_callU rfl rfl rfl rfl rfl callable13 (looks_cons (look_tmp rfl) (fun _ => rfl) (looks_cons (look_int rfl) (fun _ => rfl) (looks_cons (look_int rfl) (fun _ => rfl) (looks_nil)))) .nil (quota_Bucket_Take_ok _ _ z12.2 4611686018427387904 1) (fun _ _ => (wr_c wr_n)) (fun z19α z18 => ?_)
      refine o_weak (H' := [.obj true z4 z5 (.dat T_quota_Bucket_rep) z18.2, .obj true z8 z9 (.dat T_quota_Bucket_rep) z12.1]) (sub_pick [0, 1] rfl rfl) ?_
      refine o_end ?_
      refine den_seq ?_
      refine den_seq ?_
      refine den_region rfl ?_
      refine o_assign rfl rfl guard_none (look_int rfl) (fun _ => rfl) ?_
      refine o_end ?_
      refine den_both (fun z20 => []) (fun z20 => []) ?_ (fun z20 => ?_)
      · refine den_block ?_
        refine den_loop (law34_QuotaClones_L1b z11) (fun z39 => [(15, ⟨Rep.int .i64, z39.1, true⟩), (3, ⟨(T_law34_Step_rep).slice, z11, true⟩), (10, ⟨Rep.addr, (z8, z9), true⟩), (14, ⟨Rep.nilp, (), true⟩)]) (fun z39 => [.obj true z8 z9 (.dat T_quota_Bucket_rep) z39.2]) (0, z12.1) (fun z39 => ?_) ((Sub.trans (sub_pick [1] rfl rfl) (sub_env (sube_cons rfl (sube_cons rfl (sube_cons rfl (sube_cons rfl (sube_nil))))))))
        refine den_seq ?_
        refine den_seq ?_
        refine den_region rfl ?_
        refine o_move rfl rfl guard_none (look_tmp rfl) (fun _ => rfl) ?_
        refine o_move rfl rfl guard_none (look_tmp rfl) (fun _ => rfl) ?_
        refine o_llen Try.underlying22 rfl rfl guard_none (look_tmp rfl) (fun _ => rfl) ?_
        refine o_lss rfl rfl guard_none (look_tmp rfl) (look_tmp rfl) (fun _ => rfl) (fun _ => rfl) ?_
        refine o_end ?_
        refine den_cond (look_tmp rfl) ?_ ?_
        · refine den_skip ?_
          refine den_seq ?_
          refine den_block ?_
          refine den_seq ?_
          refine den_open (fun z40 h_z40 => ?_)
          refine den_open (fun z41 h_z41 => ?_)
          refine den_open (fun z42 h_z42 => ?_)
          refine den_open (fun z43 h_z43 => ?_)
          refine den_open (fun z44 h_z44 => ?_)
          refine den_open (fun z45 h_z45 => ?_)
          have hB : ∀ (S : Nat → Bool) (b23 : Bool), S 23 = b23 → ((fun S => [.obj true z8 z9 (.dat T_quota_Bucket_rep) (cond (S 23) z45.2 z39.2)] : (Nat → Bool) → List Go.Eng.Item) S) = ([.obj true z8 z9 (.dat T_quota_Bucket_rep) (cond b23 z45.2 z39.2)] : List Go.Eng.Item) := fun S b23 h23 => by subst h23; rfl
          refine den_drawH (H' := [.obj true z8 z9 (.dat T_quota_Bucket_rep) z45.2]) [(98, ⟨Rep.nilp, (), true⟩), (99, ⟨(T_law34_Step_rep).slice, z11, true⟩), (100, ⟨Rep.int .i64, z39.1, true⟩), (101, ⟨(T_law34_Step_rep).ptrTo, z40, true⟩), (102, ⟨(Rep.int .i64).ptrTo, z40.At, true⟩), (103, ⟨Rep.int .i64, z40.At, true⟩), (104, ⟨(T_law34_Step_rep).slice, z11, true⟩), (105, ⟨Rep.int .i64, z39.1, true⟩), (106, ⟨(T_law34_Step_rep).ptrTo, z41, true⟩), (107, ⟨(Rep.int .i64).ptrTo, z41.N, true⟩), (108, ⟨Rep.int .i64, z41.N, true⟩), (109, ⟨Rep.bool, z42, true⟩), (110, ⟨Rep.addr, (z8, z9), true⟩), (111, ⟨(T_law34_Step_rep).slice, z11, true⟩), (112, ⟨Rep.int .i64, z39.1, true⟩), (113, ⟨(T_law34_Step_rep).ptrTo, z43, true⟩), (114, ⟨(Rep.int .i64).ptrTo, z43.At, true⟩), (115, ⟨Rep.int .i64, z43.At, true⟩), (116, ⟨(T_law34_Step_rep).slice, z11, true⟩), (117, ⟨Rep.int .i64, z39.1, true⟩), (118, ⟨(T_law34_Step_rep).ptrTo, z44, true⟩), (119, ⟨(Rep.int .i64).ptrTo, z44.N, true⟩), (120, ⟨Rep.int .i64, z44.N, true⟩), (121, ⟨Rep.bool, z45.1, true⟩), (16, ⟨Rep.bool, z42, true⟩), (17, ⟨Rep.bool, z45.1, true⟩)] (fun S => [.obj true z8 z9 (.dat T_quota_Bucket_rep) (cond (S 23) z45.2 z39.2)]) mixed rfl rfl rfl (fun S hS => hB S true (hS 23 (by decide))) ⟨?_, ?_, ?_, ?_, ?_, ?_, ?_, ?_, ?_, ?_, ?_, ?_, ?_, ?_, ?_, ?_, ?_, ?_, ?_, ?_, ?_, ?_, ?_, ?_, ?_, ?_, trivial⟩ ?_
          · intro S hc hk hp
            refine o_move rfl rfl guard_none (look_o rfl rfl) (fun _ => rfl) ?_
            exact h_end rfl rfl rfl (hB (fun k => S k || Nat.beq k 0) (S 23) (or_ne rfl))
          · intro S hc hk hp
            refine o_move rfl rfl guard_none (look_o rfl rfl) (fun _ => rfl) ?_
            exact h_end rfl rfl rfl (hB (fun k => S k || Nat.beq k 1) (S 23) (or_ne rfl))
          · intro S hc hk hp
            refine o_move rfl rfl guard_none (look_o rfl rfl) (fun _ => rfl) ?_
            exact h_end rfl rfl rfl (hB (fun k => S k || Nat.beq k 2) (S 23) (or_ne rfl))
          · intro S hc hk hp
            refine o_from (bind_eqO h_z40) ?_
            refine o_iaddr Try.underlying22 type33 rfl rfl (look_d rfl rfl (pr hp 0 rfl rfl)) (look_d rfl rfl (pr hp 1 rfl rfl)) rfl rfl (o_eqO ?_)
            exact h_end rfl rfl rfl (hB (fun k => S k || Nat.beq k 3) (S 23) (or_ne rfl))
          · intro S hc hk hp
            refine o_fptr field33_1 type2 (by decide) T_law34_Step_foc1 rfl rfl guard_none (look_d rfl rfl (pr hp 0 rfl rfl)) (fun _ => rfl) ?_
            exact h_end rfl rfl rfl (hB (fun k => S k || Nat.beq k 4) (S 23) (or_ne rfl))
          · intro S hc hk hp
            refine o_load type2 rfl rfl guard_none (look_d rfl rfl (pr hp 0 rfl rfl)) (fun _ => rfl) ?_
            exact h_end rfl rfl rfl (hB (fun k => S k || Nat.beq k 5) (S 23) (or_ne rfl))
          · intro S hc hk hp
            refine o_move rfl rfl guard_none (look_o rfl rfl) (fun _ => rfl) ?_
            exact h_end rfl rfl rfl (hB (fun k => S k || Nat.beq k 6) (S 23) (or_ne rfl))
          · intro S hc hk hp
            refine o_move rfl rfl guard_none (look_o rfl rfl) (fun _ => rfl) ?_
            exact h_end rfl rfl rfl (hB (fun k => S k || Nat.beq k 7) (S 23) (or_ne rfl))
          · intro S hc hk hp
            refine o_from (bind_eqO h_z41) ?_
            refine o_iaddr Try.underlying22 type33 rfl rfl (look_d rfl rfl (pr hp 0 rfl rfl)) (look_d rfl rfl (pr hp 1 rfl rfl)) rfl rfl (o_eqO ?_)
            exact h_end rfl rfl rfl (hB (fun k => S k || Nat.beq k 8) (S 23) (or_ne rfl))
          · intro S hc hk hp
            refine o_fptr field33_2 type2 (by decide) T_law34_Step_foc2 rfl rfl guard_none (look_d rfl rfl (pr hp 0 rfl rfl)) (fun _ => rfl) ?_
            exact h_end rfl rfl rfl (hB (fun k => S k || Nat.beq k 9) (S 23) (or_ne rfl))
          · intro S hc hk hp
            refine o_load type2 rfl rfl guard_none (look_d rfl rfl (pr hp 0 rfl rfl)) (fun _ => rfl) ?_
            exact h_end rfl rfl rfl (hB (fun k => S k || Nat.beq k 10) (S 23) (or_ne rfl))
          · intro S hc hk hp
            refine o_from (bind_eqO h_z42) ?_
            refine o_call rfl rfl rfl callable13 (looks_cons (look_d rfl rfl (pr hp 0 rfl rfl)) (fun _ => rfl) (looks_cons (look_d rfl rfl (pr hp 1 rfl rfl)) (fun _ => rfl) (looks_cons (look_d rfl rfl (pr hp 2 rfl rfl)) (fun _ => rfl) (looks_nil)))) (quota_Bucket_Take_n0_ok _ _) (o_eqO ?_)
            exact h_end rfl rfl rfl (hB (fun k => S k || Nat.beq k 11) (S 23) (or_ne rfl))
          · intro S hc hk hp
            refine o_move rfl rfl guard_none (look_o rfl rfl) (fun _ => rfl) ?_
            exact h_end rfl rfl rfl (hB (fun k => S k || Nat.beq k 12) (S 23) (or_ne rfl))
          · intro S hc hk hp
            refine o_move rfl rfl guard_none (look_o rfl rfl) (fun _ => rfl) ?_
            exact h_end rfl rfl rfl (hB (fun k => S k || Nat.beq k 13) (S 23) (or_ne rfl))
          · intro S hc hk hp
            refine o_move rfl rfl guard_none (look_o rfl rfl) (fun _ => rfl) ?_
            exact h_end rfl rfl rfl (hB (fun k => S k || Nat.beq k 14) (S 23) (or_ne rfl))
          · intro S hc hk hp
            refine o_from (bind_eqO h_z43) ?_
            refine o_iaddr Try.underlying22 type33 rfl rfl (look_d rfl rfl (pr hp 0 rfl rfl)) (look_d rfl rfl (pr hp 1 rfl rfl)) rfl rfl (o_eqO ?_)
            exact h_end rfl rfl rfl (hB (fun k => S k || Nat.beq k 15) (S 23) (or_ne rfl))
          · intro S hc hk hp
            refine o_fptr field33_1 type2 (by decide) T_law34_Step_foc1 rfl rfl guard_none (look_d rfl rfl (pr hp 0 rfl rfl)) (fun _ => rfl) ?_
            exact h_end rfl rfl rfl (hB (fun k => S k || Nat.beq k 16) (S 23) (or_ne rfl))
          · intro S hc hk hp
            refine o_load type2 rfl rfl guard_none (look_d rfl rfl (pr hp 0 rfl rfl)) (fun _ => rfl) ?_
            exact h_end rfl rfl rfl (hB (fun k => S k || Nat.beq k 17) (S 23) (or_ne rfl))
          · intro S hc hk hp
            refine o_move rfl rfl guard_none (look_o rfl rfl) (fun _ => rfl) ?_
            exact h_end rfl rfl rfl (hB (fun k => S k || Nat.beq k 18) (S 23) (or_ne rfl))
          · intro S hc hk hp
            refine o_move rfl rfl guard_none (look_o rfl rfl) (fun _ => rfl) ?_
            exact h_end rfl rfl rfl (hB (fun k => S k || Nat.beq k 19) (S 23) (or_ne rfl))
          · intro S hc hk hp
            refine o_from (bind_eqO h_z44) ?_
            refine o_iaddr Try.underlying22 type33 rfl rfl (look_d rfl rfl (pr hp 0 rfl rfl)) (look_d rfl rfl (pr hp 1 rfl rfl)) rfl rfl (o_eqO ?_)
            exact h_end rfl rfl rfl (hB (fun k => S k || Nat.beq k 20) (S 23) (or_ne rfl))
          · intro S hc hk hp
            refine o_fptr field33_2 type2 (by decide) T_law34_Step_foc2 rfl rfl guard_none (look_d rfl rfl (pr hp 0 rfl rfl)) (fun _ => rfl) ?_
            exact h_end rfl rfl rfl (hB (fun k => S k || Nat.beq k 21) (S 23) (or_ne rfl))
          · intro S hc hk hp
            refine o_load type2 rfl rfl guard_none (look_d rfl rfl (pr hp 0 rfl rfl)) (fun _ => rfl) ?_
            exact h_end rfl rfl rfl (hB (fun k => S k || Nat.beq k 22) (S 23) (or_ne rfl))
          · intro S hc hk hp
            refine o_from (bind_eqO h_z45) ?_
            refine eq_H (H' := [.obj true z8 z9 (.dat T_quota_Bucket_rep) z39.2]) (hB S false hk) ?_
            refine o_weak (H' := [.obj true z8 z9 (.dat T_quota_Bucket_rep) z39.2] ++ ([] ++ [])) (sub_pick [0] rfl rfl) ?_
            refine o_callU rfl rfl rfl rfl rfl callable13 (looks_cons (look_d rfl rfl (pr hp 0 rfl rfl)) (fun _ => rfl) (looks_cons (look_d rfl rfl (pr hp 1 rfl rfl)) (fun _ => rfl) (looks_cons (look_d rfl rfl (pr hp 2 rfl rfl)) (fun _ => rfl) (looks_nil)))) .nil (quota_Bucket_Take_ok _ _ z39.2 z43.At z44.N) (fun _ _ => (wr_c wr_n)) (fun _ => o_eqOH ?_)
            refine o_weak (H' := [.obj true z8 z9 (.dat T_quota_Bucket_rep) z45.2]) (sub_pick [0] rfl rfl) ?_
            exact h_end rfl rfl rfl (hB (fun k => S k || Nat.beq k 23) true (or_i rfl))
          · intro S hc hk hp
            refine o_assign rfl rfl guard_none (look_d rfl rfl (pr hp 0 rfl rfl)) (fun _ => rfl) ?_
            exact h_end rfl rfl rfl (hB (fun k => S k || Nat.beq k 24) (S 23) (or_ne rfl))
          · intro S hc hk hp
            refine o_assign rfl rfl guard_none (look_d rfl rfl (pr hp 0 rfl rfl)) (fun _ => rfl) ?_
            exact h_end rfl rfl rfl (hB (fun k => S k || Nat.beq k 25) (S 23) (or_ne rfl))
          refine den_seq ?_
          refine den_open (fun z47 h_z47 => ?_)
          refine den_open (fun z48 h_z48 => ?_)
          refine den_open (fun z49 h_z49 => ?_)
          refine den_open (fun z50 h_z50 => ?_)
          refine den_draw [(122, ⟨Rep.bool, z42, true⟩), (123, ⟨Rep.bool, z45.1, true⟩), (124, ⟨Rep.bool, z42 != z45.1, true⟩), (125, ⟨Rep.bool, z42 != z45.1, true⟩), (126, ⟨Rep.nilp, (), (true && ((z42 != z45.1) == false))⟩), (127, ⟨(T_law34_Step_rep).slice, z11, (true && ((z42 != z45.1) == false))⟩), (128, ⟨Rep.int .i64, z39.1, (true && ((z42 != z45.1) == false))⟩), (129, ⟨(T_law34_Step_rep).ptrTo, z47, (true && ((z42 != z45.1) == false))⟩), (130, ⟨(Rep.int .i64).ptrTo, z47.At, (true && ((z42 != z45.1) == false))⟩), (131, ⟨Rep.int .i64, z47.At, (true && ((z42 != z45.1) == false))⟩), (132, ⟨Rep.int .i64, z48, (true && ((z42 != z45.1) == false))⟩), (133, ⟨Rep.addr, (z8, z9), (true && ((z42 != z45.1) == false))⟩), (134, ⟨(T_law34_Step_rep).slice, z11, (true && ((z42 != z45.1) == false))⟩), (135, ⟨Rep.int .i64, z39.1, (true && ((z42 != z45.1) == false))⟩), (136, ⟨(T_law34_Step_rep).ptrTo, z49, (true && ((z42 != z45.1) == false))⟩), (137, ⟨(Rep.int .i64).ptrTo, z49.At, (true && ((z42 != z45.1) == false))⟩), (138, ⟨Rep.int .i64, z49.At, (true && ((z42 != z45.1) == false))⟩), (139, ⟨Rep.int .i64, z50, (true && ((z42 != z45.1) == false))⟩), (140, ⟨Rep.bool, z48 != z50, (true && ((z42 != z45.1) == false))⟩), (141, ⟨Rep.bool, cond (z42 != z45.1) true (z48 != z50), true⟩)] mixed rfl rfl ⟨?_, ?_, ?_, ?_, ?_, ?_, ?_, ?_, ?_, ?_, ?_, ?_, ?_, ?_, ?_, ?_, ?_, ?_, ?_, ?_, trivial⟩ ?_
          · intro S hc hk hp
            refine o_move rfl rfl guard_none (look_o rfl rfl) (fun _ => rfl) ?_
            exact d_end rfl rfl rfl
          · intro S hc hk hp
            refine o_move rfl rfl guard_none (look_o rfl rfl) (fun _ => rfl) ?_
            exact d_end rfl rfl rfl
          · intro S hc hk hp
            refine o_bneq Try.underlying4 rfl rfl guard_none (look_d rfl rfl (pr hp 0 rfl rfl)) (look_d rfl rfl (pr hp 1 rfl rfl)) (fun _ => rfl) (fun _ => rfl) ?_
            exact d_end rfl rfl rfl
          · intro S hc hk hp
            refine o_move rfl rfl guard_none (look_d rfl rfl (pr hp 0 rfl rfl)) (fun _ => rfl) ?_
            exact d_end rfl rfl rfl
          · intro S hc hk hp
            refine o_move rfl rfl (guard_d rfl rfl rfl rfl (pr hp 0 rfl rfl)) (look_o rfl rfl) (fun _ => rfl) ?_
            exact d_end rfl rfl rfl
          · intro S hc hk hp
            refine o_move rfl rfl (guard_d rfl rfl rfl rfl (pr hp 0 rfl rfl)) (look_o rfl rfl) (fun _ => rfl) ?_
            exact d_end rfl rfl rfl
          · intro S hc hk hp
            refine o_move rfl rfl (guard_d rfl rfl rfl rfl (pr hp 0 rfl rfl)) (look_o rfl rfl) (fun _ => rfl) ?_
            exact d_end rfl rfl rfl
          · intro S hc hk hp
            refine o_from (bind_eqO h_z47) ?_
            refine o_iaddrg Try.underlying22 type33 rfl rfl (guard_d rfl rfl rfl rfl (pr hp 2 rfl rfl)) (look_d rfl rfl (pr hp 0 rfl rfl)) (look_d rfl rfl (pr hp 1 rfl rfl)) (fun h => h) (fun h => h) (o_eqO ?_)
            exact d_end rfl rfl rfl
          · intro S hc hk hp
            refine o_fptr field33_1 type2 (by decide) T_law34_Step_foc1 rfl rfl (guard_d rfl rfl rfl rfl (pr hp 1 rfl rfl)) (look_d rfl rfl (pr hp 0 rfl rfl)) (fun h => h) ?_
            exact d_end rfl rfl rfl
          · intro S hc hk hp
            refine o_load type2 rfl rfl (guard_d rfl rfl rfl rfl (pr hp 1 rfl rfl)) (look_d rfl rfl (pr hp 0 rfl rfl)) (fun h => h) ?_
            exact d_end rfl rfl rfl
          · intro S hc hk hp
            refine o_from (bind_eqO h_z48) ?_
            refine o_callg rfl rfl rfl (guard_d rfl rfl rfl rfl (pr hp 2 rfl rfl)) callable17 (looks_cons (look_d rfl rfl (pr hp 0 rfl rfl)) (fun h => h) (looks_cons (look_d rfl rfl (pr hp 1 rfl rfl)) (fun h => h) (looks_nil))) (quota_Bucket_At_n0_ok _) (o_eqO ?_)
            exact d_end rfl rfl rfl
          · intro S hc hk hp
            refine o_move rfl rfl (guard_d rfl rfl rfl rfl (pr hp 0 rfl rfl)) (look_o rfl rfl) (fun _ => rfl) ?_
            exact d_end rfl rfl rfl
          · intro S hc hk hp
            refine o_move rfl rfl (guard_d rfl rfl rfl rfl (pr hp 0 rfl rfl)) (look_o rfl rfl) (fun _ => rfl) ?_
            exact d_end rfl rfl rfl
          · intro S hc hk hp
            refine o_move rfl rfl (guard_d rfl rfl rfl rfl (pr hp 0 rfl rfl)) (look_o rfl rfl) (fun _ => rfl) ?_
            exact d_end rfl rfl rfl
          · intro S hc hk hp
            refine o_from (bind_eqO h_z49) ?_
            refine o_iaddrg Try.underlying22 type33 rfl rfl (guard_d rfl rfl rfl rfl (pr hp 2 rfl rfl)) (look_d rfl rfl (pr hp 0 rfl rfl)) (look_d rfl rfl (pr hp 1 rfl rfl)) (fun h => h) (fun h => h) (o_eqO ?_)
            exact d_end rfl rfl rfl
          · intro S hc hk hp
            refine o_fptr field33_1 type2 (by decide) T_law34_Step_foc1 rfl rfl (guard_d rfl rfl rfl rfl (pr hp 1 rfl rfl)) (look_d rfl rfl (pr hp 0 rfl rfl)) (fun h => h) ?_
            exact d_end rfl rfl rfl
          · intro S hc hk hp
            refine o_load type2 rfl rfl (guard_d rfl rfl rfl rfl (pr hp 1 rfl rfl)) (look_d rfl rfl (pr hp 0 rfl rfl)) (fun h => h) ?_
            exact d_end rfl rfl rfl
          · intro S hc hk hp
            refine o_from (bind_eqO h_z50) ?_
            refine o_weak (H' := [] ++ ([.obj true z8 z9 (.dat T_quota_Bucket_rep) z45.2] ++ [])) (sub_pick [0] rfl rfl) ?_
            refine o_callX (its := []) (0 : Int) () rfl rfl rfl rfl (guard_d rfl rfl rfl rfl (pr hp 3 rfl rfl)) callable17 (looks_cons (look_d rfl rfl (pr hp 0 rfl rfl)) (fun h => h) (looks_cons (look_d rfl rfl (pr hp 1 rfl rfl)) (fun h => h) (looks_nil))) (.cons .nil) (quota_Bucket_At_ok _ _ z45.2 z49.At) (fun _ _ => wr_n) ?_ (fun _ => o_eqOH ?_)
            · exact fun _ => rfl
            refine o_weak (H' := [.obj true z8 z9 (.dat T_quota_Bucket_rep) z45.2]) (sub_pick [0] rfl rfl) ?_
            exact d_end rfl rfl rfl
          · intro S hc hk hp
            refine o_neq rfl rfl (guard_d rfl rfl rfl rfl (pr hp 2 rfl rfl)) (look_d rfl rfl (pr hp 0 rfl rfl)) (look_d rfl rfl (pr hp 1 rfl rfl)) (fun h => h) (fun h => h) ?_
            exact d_end rfl rfl rfl
          · intro S hc hk hp
            refine o_pick rfl rfl guard_none (look_d rfl rfl (pr hp 0 rfl rfl)) look_bool (look_d rfl rfl (pr hp 1 rfl rfl)) (fun _ => rfl) (fun _ _ => rfl) (fun h1 h2 => pick_f ((fun _ => rfl) h1) h2) ?_
            exact d_end rfl rfl rfl
          refine den_cond (look_tmp rfl) ?_ ?_
          · refine den_seq ?_
            refine den_region rfl ?_
            refine o_assign rfl rfl guard_none look_bool (fun _ => rfl) ?_
            refine o_end ?_
            refine den_code_ret ?_
            refine dene_ret ?_
            refine dene_loop (by simp) ?_
            refine dene_ret ?_
            refine dene_both (by simp) ?_
            refine dene_ret ?_
            exact dene_res (res1 rfl (rv_tmp rfl))
          · refine den_skip ?_
            refine den_blkend ?_
            refine den_region rfl ?_
            refine o_move rfl rfl guard_none (look_tmp rfl) (fun _ => rfl) ?_
            refine o_add rfl rfl guard_none (look_tmp rfl) (look_int rfl) (fun _ => rfl) (fun _ => rfl) ?_
            refine o_assign rfl rfl guard_none (look_tmp rfl) (fun _ => rfl) ?_
            refine o_end ?_
            refine den_next ((sub_env (sube_cons rfl (sube_cons rfl (sube_cons rfl (sube_cons rfl (sube_nil)))))))
        · refine den_code_exit ?_
          refine dene_out rfl ?_
          refine dene_loop (by simp) ?_
          refine dene_to rfl ?_
          refine den_endl ((Sub.trans (sub_pick [] rfl rfl) (sub_env (sube_nil))))
      refine den_seq ?_
      refine den_region rfl ?_
      refine o_assign rfl rfl guard_none look_nilp (fun _ => rfl) ?_
      refine o_end ?_
      refine den_seq ?_
      refine den_region rfl ?_
      refine o_build (R := T_quota_Bucket_rep0) (f := T_quota_Bucket_tup) (y := (⟨0, 0, 0, 0, false⟩ : T_quota_Bucket)) shape42 rfl rfl rfl rfl guard_none (bld_zero (z_int rfl) (bld_zero (z_int rfl) (bld_zero (z_int rfl) (bld_zero (z_int rfl) (bld_zero (z_bool rfl) (bld_nil)))))) ?_
      refine o_box rfl rfl (look_tmp rfl) rfl (fun z21 => ?_)
      refine o_assign rfl rfl guard_none (look_tmp rfl) (fun _ => rfl) ?_
      refine o_end ?_
      refine den_seq ?_
      refine den_region rfl ?_
      refine o_move rfl rfl guard_none (look_tmp rfl) (fun _ => rfl) ?_
      refine o_call rfl rfl rfl callable14 (looks_cons (look_tmp rfl) (fun _ => rfl) (looks_cons (look_int rfl) (fun _ => rfl) (looks_cons (look_int rfl) (fun _ => rfl) (looks_nil)))) (quota_Bucket_Wait_n0_ok _ _) (fun z22 => ?_)
      refine o_move rfl rfl guard_none (look_tmp rfl) (fun _ => rfl) ?_
      refine o_fst rfl rfl guard_none (look_tmp rfl) (fun _ => rfl) ?_
      refine o_snd rfl rfl guard_none (look_tmp rfl) (fun _ => rfl) ?_
      refine o_assign rfl rfl guard_none (look_tmp rfl) (fun _ => rfl) ?_
      refine o_assign rfl rfl guard_none (look_tmp rfl) (fun _ => rfl) ?_
      refine o_end ?_
      refine den_seq ?_
      refine den_region rfl ?_
      refine o_move rfl rfl guard_none (look_tmp rfl) (fun _ => rfl) ?_
      refine o_weak (H' := [] ++ ([.obj true z21 0 (.dat T_quota_Bucket_rep) (⟨0, 0, 0, 0, false⟩ : T_quota_Bucket)] ++ [])) (sub_pick [0] rfl rfl) ?_
      refine o_callU rfl rfl rfl rfl rfl callable14 (looks_cons (look_tmp rfl) (fun _ => rfl) (looks_cons (look_int rfl) (fun _ => rfl) (looks_cons (look_int rfl) (fun _ => rfl) (looks_nil)))) (.cons .nil) (quota_Bucket_Wait_ok _ _ (⟨0, 0, 0, 0, false⟩ : T_quota_Bucket) 0 0) (fun _ _ => wr_n) (fun z24α z23 => ?_)
      refine o_weak (H' := [.obj true z21 0 (.dat T_quota_Bucket_rep) (⟨0, 0, 0, 0, false⟩ : T_quota_Bucket)]) (sub_pick [0] rfl rfl) ?_
      refine o_move rfl rfl guard_none (look_tmp rfl) (fun _ => rfl) ?_
      refine o_fst rfl rfl guard_none (look_tmp rfl) (fun _ => rfl) ?_
      refine o_snd rfl rfl guard_none (look_tmp rfl) (fun _ => rfl) ?_
      refine o_assign rfl rfl guard_none (look_tmp rfl) (fun _ => rfl) ?_
      refine o_assign rfl rfl guard_none (look_tmp rfl) (fun _ => rfl) ?_
      refine o_end ?_
      refine den_seq ?_
      refine den_region rfl ?_
      refine o_move rfl rfl guard_none (look_tmp rfl) (fun _ => rfl) ?_
      refine o_call rfl rfl rfl callable17 (looks_cons (look_tmp rfl) (fun _ => rfl) (looks_cons (look_int rfl) (fun _ => rfl) (looks_nil))) (quota_Bucket_At_n0_ok _) (fun z25 => ?_)
      refine o_eql rfl rfl guard_none (look_tmp rfl) (look_int rfl) (fun _ => rfl) (fun _ => rfl) ?_
      refine o_move rfl rfl guard_none (look_tmp rfl) (fun _ => rfl) ?_
      refine o_move rfl rfl (guard_some rfl rfl rfl) (look_tmp rfl) (fun _ => rfl) ?_
      refine o_weak (H' := [] ++ ([.obj true z21 0 (.dat T_quota_Bucket_rep) (⟨0, 0, 0, 0, false⟩ : T_quota_Bucket)] ++ [])) (sub_pick [0] rfl rfl) ?_
      refine o_callX (its := []) (0 : Int) () rfl rfl rfl rfl (guard_some rfl rfl rfl) callable17 (looks_cons (look_tmp rfl) (fun h => h) (looks_cons (look_int rfl) (fun _ => rfl) (looks_nil))) (.cons .nil) (quota_Bucket_At_ok _ _ (⟨0, 0, 0, 0, false⟩ : T_quota_Bucket) 1) (fun _ _ => wr_n) ?_ (fun z27α z26 => ?_)
      · exact fun _ => rfl
      refine o_weak (H' := [.obj true z21 0 (.dat T_quota_Bucket_rep) (⟨0, 0, 0, 0, false⟩ : T_quota_Bucket)]) (sub_pick [0] rfl rfl) ?_
      refine o_eql rfl rfl (guard_some rfl rfl rfl) (look_tmp rfl) (look_int rfl) (fun h => h) (fun _ => rfl) ?_
      refine o_pick rfl rfl guard_none (look_tmp rfl) (look_tmp rfl) look_bool (fun _ => rfl) (fun h1 h2 => pick_t ((fun _ => rfl) h1) h2) (fun _ _ => rfl) ?_
      refine o_move rfl rfl guard_none (look_tmp rfl) (fun _ => rfl) ?_
      refine o_move rfl rfl (guard_some rfl rfl rfl) (look_tmp rfl) (fun _ => rfl) ?_
      refine o_callg rfl rfl rfl (guard_some rfl rfl rfl) callable13 (looks_cons (look_tmp rfl) (fun h => h) (looks_cons (look_int rfl) (fun _ => rfl) (looks_cons (look_int rfl) (fun _ => rfl) (looks_nil)))) (quota_Bucket_Take_n0_ok _ _) (fun z28 => ?_)
      refine o_not rfl rfl (guard_some rfl rfl rfl) (look_tmp rfl) (fun h => h) ?_
      refine o_pick rfl rfl guard_none (look_tmp rfl) (look_tmp rfl) look_bool (fun _ => rfl) (fun h1 h2 => pick_t ((fun _ => rfl) h1) h2) (fun _ _ => rfl) ?_
      refine o_move rfl rfl guard_none (look_tmp rfl) (fun _ => rfl) ?_
      refine o_move rfl rfl (guard_some rfl rfl rfl) (look_tmp rfl) (fun _ => rfl) ?_
      refine o_weak (H' := [.obj true z21 0 (.dat T_quota_Bucket_rep) (⟨0, 0, 0, 0, false⟩ : T_quota_Bucket)] ++ ([] ++ [])) (sub_pick [0] rfl rfl) ?_
      refine o_callX (its := [.obj true z21 0 (.dat T_quota_Bucket_rep) (⟨0, 0, 0, 0, false⟩ : T_quota_Bucket)]) ((false, (⟨0, 0, 0, 0, false⟩ : T_quota_Bucket)) : (Bool × T_quota_Bucket)) () rfl rfl rfl rfl (guard_some rfl rfl rfl) callable13 (looks_cons (look_tmp rfl) (fun h => h) (looks_cons (look_int rfl) (fun _ => rfl) (looks_cons (look_int rfl) (fun _ => rfl) (looks_nil)))) .nil (quota_Bucket_Take_ok _ _ (⟨0, 0, 0, 0, false⟩ : T_quota_Bucket) 1 0) (fun _ _ => (wr_c wr_n)) ?_ (fun z30α z29 => ?_)
      · exact fun _ => rfl
      refine o_weak (H' := [.obj true z21 0 (.dat T_quota_Bucket_rep) z29.2]) (sub_pick [0] rfl rfl) ?_
      refine o_not rfl rfl (guard_some rfl rfl rfl) (look_tmp rfl) (fun h => h) ?_
      refine o_pick rfl rfl guard_none (look_tmp rfl) (look_tmp rfl) look_bool (fun _ => rfl) (fun h1 h2 => pick_t ((fun _ => rfl) h1) h2) (fun _ _ => rfl) ?_
      refine o_move rfl rfl guard_none (look_tmp rfl) (fun _ => rfl) ?_
      refine o_move rfl rfl (guard_some rfl rfl rfl) (look_tmp rfl) (fun _ => rfl) ?_
      refine o_not rfl rfl (guard_some rfl rfl rfl) (look_tmp rfl) (fun h => h) ?_
      refine o_pick rfl rfl guard_none (look_tmp rfl) (look_tmp rfl) look_bool (fun _ => rfl) (fun h1 h2 => pick_t ((fun _ => rfl) h1) h2) (fun _ _ => rfl) ?_
      refine o_move rfl rfl guard_none (look_tmp rfl) (fun _ => rfl) ?_
      refine o_move rfl rfl (guard_some rfl rfl rfl) (look_tmp rfl) (fun _ => rfl) ?_
      refine o_not rfl rfl (guard_some rfl rfl rfl) (look_tmp rfl) (fun h => h) ?_
      refine o_pick rfl rfl guard_none (look_tmp rfl) (look_tmp rfl) look_bool (fun _ => rfl) (fun h1 h2 => pick_t ((fun _ => rfl) h1) h2) (fun _ _ => rfl) ?_
      refine o_move rfl rfl guard_none (look_tmp rfl) (fun _ => rfl) ?_
      refine o_move rfl rfl (guard_some rfl rfl rfl) (look_tmp rfl) (fun _ => rfl) ?_
      refine o_callg rfl rfl rfl (guard_some rfl rfl rfl) callable16 (looks_cons (look_tmp rfl) (fun h => h) (looks_nil)) (quota_Bucket_Clone_n0_ok) (fun z31 => ?_)
      refine o_neql Try.underlying24 rfl rfl (guard_some rfl rfl rfl) (look_tmp rfl) (fun h => h) ?_
      refine o_pick rfl rfl guard_none (look_tmp rfl) (look_tmp rfl) look_bool (fun _ => rfl) (fun h1 h2 => pick_t ((fun _ => rfl) h1) h2) (fun _ _ => rfl) ?_
      refine o_move rfl rfl guard_none (look_tmp rfl) (fun _ => rfl) ?_
      refine o_move rfl rfl (guard_some rfl rfl rfl) (look_tmp rfl) (fun _ => rfl) ?_
      refine o_weak (H' := [] ++ ([.obj true z21 0 (.dat T_quota_Bucket_rep) z29.2] ++ [])) (sub_pick [0] rfl rfl) ?_
      refine o_callX (its := []) (none : (Option T_quota_Bucket)) (0, 0) rfl rfl rfl rfl (guard_some rfl rfl rfl) callable16 (looks_cons (look_tmp rfl) (fun h => h) (looks_nil)) (.cons .nil) (quota_Bucket_Clone_ok _ _ z29.2) (fun _ _ => (wr_ol (fun _ => (wr_c wr_n)) wr_n)) ?_ (fun z33α z32 => ?_)
      · exact fun _ => rfl
      obtain ⟨z34, z35⟩ := z33α
      rcases z32 with _ | z36
      · refine o_weak (H' := [.obj true z21 0 (.dat T_quota_Bucket_rep) z29.2]) (sub_pick [0] rfl rfl) ?_
        refine o_asnil ?_
        refine o_optn ?_
        refine o_neql Try.underlying24 rfl rfl (guard_some rfl rfl rfl) (look_tmp rfl) (fun h => h) ?_
        refine o_pick rfl rfl guard_none (look_tmp rfl) (look_tmp rfl) look_bool (fun _ => rfl) (fun h1 h2 => pick_t ((fun _ => rfl) h1) h2) (fun _ _ => rfl) ?_
        refine o_assign rfl rfl guard_none (look_tmp rfl) (fun _ => rfl) ?_
        refine o_lt (fun z37 => ?_)
        refine o_end ?_
        refine den_code_ret ?_
        exact dene_res (res1 rfl (rv_tmp rfl))
      · refine o_weak (H' := [.obj true z34 z35 (.dat T_quota_Bucket_rep) z36, .obj true z21 0 (.dat T_quota_Bucket_rep) z29.2]) (sub_pick [0, 1] rfl rfl) ?_
        refine o_asptr ?_
        refine o_opts ?_
        refine o_peql Try.underlying24 rfl rfl (guard_some rfl rfl rfl) (look_tmp rfl) (fun h => h) ?_
        refine o_pick rfl rfl guard_none (look_tmp rfl) (look_tmp rfl) look_bool (fun _ => rfl) (fun h1 h2 => pick_t ((fun _ => rfl) h1) h2) (fun _ _ => rfl) ?_
        refine o_assign rfl rfl guard_none (look_tmp rfl) (fun _ => rfl) ?_
        refine o_lt (fun z38 => ?_)
        refine o_end ?_
        refine den_code_ret ?_
        exact dene_res (res1 rfl (rv_tmp rfl))
    · refine o_weak (H' := [.obj true z15 z16 (.dat T_quota_Bucket_rep) z17, .obj true z4 z5 (.dat T_quota_Bucket_rep) z12.2, .obj true z8 z9 (.dat T_quota_Bucket_rep) z12.1]) (sub_pick [0, 1, 2] rfl rfl) ?_
      refine o_asptr ?_
      refine o_opts ?_
      refine o_assign rfl rfl guard_none (look_tmp rfl) (fun _ => rfl) ?_
      refine o_end ?_
      refine den_seq ?_
      refine den_region rfl ?_
      refine o_move rfl rfl guard_none (look_tmp rfl) (fun _ => rfl) ?_
      refine o_weak (H' := [.obj true z4 z5 (.dat T_quota_Bucket_rep) z12.2] ++ ([] ++ [.obj true z15 z16 (.dat T_quota_Bucket_rep) z17, .obj true z8 z9 (.dat T_quota_Bucket_rep) z12.1])) (sub_pick [1, 0, 2] rfl rfl) ?_
      refine o_callU rfl rfl rfl rfl rfl callable13 (looks_cons (look_tmp rfl) (fun _ => rfl) (looks_cons (look_int rfl) (fun _ => rfl) (looks_cons (look_int rfl) (fun _ => rfl) (looks_nil)))) .nil (quota_Bucket_Take_ok _ _ z12.2 4611686018427387904 1) (fun _ _ => (wr_c wr_n)) (fun z53α z52 => ?_)
      refine o_weak (H' := [.obj true z4 z5 (.dat T_quota_Bucket_rep) z52.2, .obj true z15 z16 (.dat T_quota_Bucket_rep) z17, .obj true z8 z9 (.dat T_quota_Bucket_rep) z12.1]) (sub_pick [0, 1, 2] rfl rfl) ?_
      refine o_end ?_
      refine den_seq ?_
      refine den_seq ?_
      refine den_region rfl ?_
      refine o_assign rfl rfl guard_none (look_int rfl) (fun _ => rfl) ?_
      refine o_end ?_
      refine den_both (fun z54 => []) (fun z54 => []) ?_ (fun z54 => ?_)
      · refine den_block ?_
        refine den_loop (law34_QuotaClones_L2b z11) (fun z73 => [(15, ⟨Rep.int .i64, z73.1, true⟩), (3, ⟨(T_law34_Step_rep).slice, z11, true⟩), (10, ⟨Rep.addr, (z8, z9), true⟩), (14, ⟨Rep.addr, (z15, z16), true⟩)]) (fun z73 => [.obj true z15 z16 (.dat T_quota_Bucket_rep) z73.2.1, .obj true z8 z9 (.dat T_quota_Bucket_rep) z73.2.2]) (0, z17, z12.1) (fun z73 => ?_) ((Sub.trans (sub_pick [1, 2] rfl rfl) (sub_env (sube_cons rfl (sube_cons rfl (sube_cons rfl (sube_cons rfl (sube_nil))))))))
        refine den_seq ?_
        refine den_seq ?_
        refine den_region rfl ?_
        refine o_move rfl rfl guard_none (look_tmp rfl) (fun _ => rfl) ?_
        refine o_move rfl rfl guard_none (look_tmp rfl) (fun _ => rfl) ?_
        refine o_llen Try.underlying22 rfl rfl guard_none (look_tmp rfl) (fun _ => rfl) ?_
        refine o_lss rfl rfl guard_none (look_tmp rfl) (look_tmp rfl) (fun _ => rfl) (fun _ => rfl) ?_
        refine o_end ?_
        refine den_cond (look_tmp rfl) ?_ ?_
        · refine den_skip ?_
          refine den_seq ?_
          refine den_block ?_
          refine den_seq ?_
          refine den_open (fun z74 h_z74 => ?_)
          refine den_open (fun z75 h_z75 => ?_)
          refine den_open (fun z76 h_z76 => ?_)
          refine den_open (fun z78 h_z78 => ?_)
          refine den_open (fun z79 h_z79 => ?_)
          refine den_open (fun z80 h_z80 => ?_)
          have hB : ∀ (S : Nat → Bool) (b11 b23 : Bool), S 11 = b11 → S 23 = b23 → ((fun S => [.obj true z15 z16 (.dat T_quota_Bucket_rep) (cond (S 11) z76.2 z73.2.1), .obj true z8 z9 (.dat T_quota_Bucket_rep) (cond (S 23) z80.2 z73.2.2)] : (Nat → Bool) → List Go.Eng.Item) S) = ([.obj true z15 z16 (.dat T_quota_Bucket_rep) (cond b11 z76.2 z73.2.1), .obj true z8 z9 (.dat T_quota_Bucket_rep) (cond b23 z80.2 z73.2.2)] : List Go.Eng.Item) := fun S b11 b23 h11 h23 => by subst h11; subst h23; rfl
          refine den_drawH (H' := [.obj true z15 z16 (.dat T_quota_Bucket_rep) z76.2, .obj true z8 z9 (.dat T_quota_Bucket_rep) z80.2]) [(98, ⟨Rep.addr, (z15, z16), true⟩), (99, ⟨(T_law34_Step_rep).slice, z11, true⟩), (100, ⟨Rep.int .i64, z73.1, true⟩), (101, ⟨(T_law34_Step_rep).ptrTo, z74, true⟩), (102, ⟨(Rep.int .i64).ptrTo, z74.At, true⟩), (103, ⟨Rep.int .i64, z74.At, true⟩), (104, ⟨(T_law34_Step_rep).slice, z11, true⟩), (105, ⟨Rep.int .i64, z73.1, true⟩), (106, ⟨(T_law34_Step_rep).ptrTo, z75, true⟩), (107, ⟨(Rep.int .i64).ptrTo, z75.N, true⟩), (108, ⟨Rep.int .i64, z75.N, true⟩), (109, ⟨Rep.bool, z76.1, true⟩), (110, ⟨Rep.addr, (z8, z9), true⟩), (111, ⟨(T_law34_Step_rep).slice, z11, true⟩), (112, ⟨Rep.int .i64, z73.1, true⟩), (113, ⟨(T_law34_Step_rep).ptrTo, z78, true⟩), (114, ⟨(Rep.int .i64).ptrTo, z78.At, true⟩), (115, ⟨Rep.int .i64, z78.At, true⟩), (116, ⟨(T_law34_Step_rep).slice, z11, true⟩), (117, ⟨Rep.int .i64, z73.1, true⟩), (118, ⟨(T_law34_Step_rep).ptrTo, z79, true⟩), (119, ⟨(Rep.int .i64).ptrTo, z79.N, true⟩), (120, ⟨Rep.int .i64, z79.N, true⟩), (121, ⟨Rep.bool, z80.1, true⟩), (16, ⟨Rep.bool, z76.1, true⟩), (17, ⟨Rep.bool, z80.1, true⟩)] (fun S => [.obj true z15 z16 (.dat T_quota_Bucket_rep) (cond (S 11) z76.2 z73.2.1), .obj true z8 z9 (.dat T_quota_Bucket_rep) (cond (S 23) z80.2 z73.2.2)]) mixed rfl rfl rfl (fun S hS => hB S true true (hS 11 (by decide)) (hS 23 (by decide))) ⟨?_, ?_, ?_, ?_, ?_, ?_, ?_, ?_, ?_, ?_, ?_, ?_, ?_, ?_, ?_, ?_, ?_, ?_, ?_, ?_, ?_, ?_, ?_, ?_, ?_, ?_, trivial⟩ ?_
          · intro S hc hk hp
            refine o_move rfl rfl guard_none (look_o rfl rfl) (fun _ => rfl) ?_
            exact h_end rfl rfl rfl (hB (fun k => S k || Nat.beq k 0) (S 11) (S 23) (or_ne rfl) (or_ne rfl))
          · intro S hc hk hp
            refine o_move rfl rfl guard_none (look_o rfl rfl) (fun _ => rfl) ?_
            exact h_end rfl rfl rfl (hB (fun k => S k || Nat.beq k 1) (S 11) (S 23) (or_ne rfl) (or_ne rfl))
          · intro S hc hk hp
            refine o_move rfl rfl guard_none (look_o rfl rfl) (fun _ => rfl) ?_
            exact h_end rfl rfl rfl (hB (fun k => S k || Nat.beq k 2) (S 11) (S 23) (or_ne rfl) (or_ne rfl))
          · intro S hc hk hp
            refine o_from (bind_eqO h_z74) ?_
            refine o_iaddr Try.underlying22 type33 rfl rfl (look_d rfl rfl (pr hp 0 rfl rfl)) (look_d rfl rfl (pr hp 1 rfl rfl)) rfl rfl (o_eqO ?_)
            exact h_end rfl rfl rfl (hB (fun k => S k || Nat.beq k 3) (S 11) (S 23) (or_ne rfl) (or_ne rfl))
          · intro S hc hk hp
            refine o_fptr field33_1 type2 (by decide) T_law34_Step_foc1 rfl rfl guard_none (look_d rfl rfl (pr hp 0 rfl rfl)) (fun _ => rfl) ?_
            exact h_end rfl rfl rfl (hB (fun k => S k || Nat.beq k 4) (S 11) (S 23) (or_ne rfl) (or_ne rfl))
          · intro S hc hk hp
            refine o_load type2 rfl rfl guard_none (look_d rfl rfl (pr hp 0 rfl rfl)) (fun _ => rfl) ?_
            exact h_end rfl rfl rfl (hB (fun k => S k || Nat.beq k 5) (S 11) (S 23) (or_ne rfl) (or_ne rfl))
          · intro S hc hk hp
            refine o_move rfl rfl guard_none (look_o rfl rfl) (fun _ => rfl) ?_
            exact h_end rfl rfl rfl (hB (fun k => S k || Nat.beq k 6) (S 11) (S 23) (or_ne rfl) (or_ne rfl))
          · intro S hc hk hp
            refine o_move rfl rfl guard_none (look_o rfl rfl) (fun _ => rfl) ?_
            exact h_end rfl rfl rfl (hB (fun k => S k || Nat.beq k 7) (S 11) (S 23) (or_ne rfl) (or_ne rfl))
          · intro S hc hk hp
            refine o_from (bind_eqO h_z75) ?_
            refine o_iaddr Try.underlying22 type33 rfl rfl (look_d rfl rfl (pr hp 0 rfl rfl)) (look_d rfl rfl (pr hp 1 rfl rfl)) rfl rfl (o_eqO ?_)
            exact h_end rfl rfl rfl (hB (fun k => S k || Nat.beq k 8) (S 11) (S 23) (or_ne rfl) (or_ne rfl))
          · intro S hc hk hp
            refine o_fptr field33_2 type2 (by decide) T_law34_Step_foc2 rfl rfl guard_none (look_d rfl rfl (pr hp 0 rfl rfl)) (fun _ => rfl) ?_
            exact h_end rfl rfl rfl (hB (fun k => S k || Nat.beq k 9) (S 11) (S 23) (or_ne rfl) (or_ne rfl))
          · intro S hc hk hp
            refine o_load type2 rfl rfl guard_none (look_d rfl rfl (pr hp 0 rfl rfl)) (fun _ => rfl) ?_
            exact h_end rfl rfl rfl (hB (fun k => S k || Nat.beq k 10) (S 11) (S 23) (or_ne rfl) (or_ne rfl))
          · intro S hc hk hp
            refine o_from (bind_eqO h_z76) ?_
            refine eq_H (H' := [.obj true z15 z16 (.dat T_quota_Bucket_rep) z73.2.1, .obj true z8 z9 (.dat T_quota_Bucket_rep) (cond (S 23) z80.2 z73.2.2)]) (hB S false (S 23) hk rfl) ?_
            refine o_weak (H' := [.obj true z15 z16 (.dat T_quota_Bucket_rep) z73.2.1] ++ ([] ++ [.obj true z8 z9 (.dat T_quota_Bucket_rep) (cond (S 23) z80.2 z73.2.2)])) (sub_pick [0, 1] rfl rfl) ?_
            refine o_callU rfl rfl rfl rfl rfl callable13 (looks_cons (look_d rfl rfl (pr hp 0 rfl rfl)) (fun _ => rfl) (looks_cons (look_d rfl rfl (pr hp 1 rfl rfl)) (fun _ => rfl) (looks_cons (look_d rfl rfl (pr hp 2 rfl rfl)) (fun _ => rfl) (looks_nil)))) .nil (quota_Bucket_Take_ok _ _ z73.2.1 z74.At z75.N) (fun _ _ => (wr_c wr_n)) (fun _ => o_eqOH ?_)
            refine o_weak (H' := [.obj true z15 z16 (.dat T_quota_Bucket_rep) z76.2, .obj true z8 z9 (.dat T_quota_Bucket_rep) (cond (S 23) z80.2 z73.2.2)]) (sub_pick [0, 1] rfl rfl) ?_
            exact h_end rfl rfl rfl (hB (fun k => S k || Nat.beq k 11) true (S 23) (or_i rfl) (or_ne rfl))
          · intro S hc hk hp
            refine o_move rfl rfl guard_none (look_o rfl rfl) (fun _ => rfl) ?_
            exact h_end rfl rfl rfl (hB (fun k => S k || Nat.beq k 12) (S 11) (S 23) (or_ne rfl) (or_ne rfl))
          · intro S hc hk hp
            refine o_move rfl rfl guard_none (look_o rfl rfl) (fun _ => rfl) ?_
            exact h_end rfl rfl rfl (hB (fun k => S k || Nat.beq k 13) (S 11) (S 23) (or_ne rfl) (or_ne rfl))
          · intro S hc hk hp
            refine o_move rfl rfl guard_none (look_o rfl rfl) (fun _ => rfl) ?_
            exact h_end rfl rfl rfl (hB (fun k => S k || Nat.beq k 14) (S 11) (S 23) (or_ne rfl) (or_ne rfl))
          · intro S hc hk hp
            refine o_from (bind_eqO h_z78) ?_
            refine o_iaddr Try.underlying22 type33 rfl rfl (look_d rfl rfl (pr hp 0 rfl rfl)) (look_d rfl rfl (pr hp 1 rfl rfl)) rfl rfl (o_eqO ?_)
            exact h_end rfl rfl rfl (hB (fun k => S k || Nat.beq k 15) (S 11) (S 23) (or_ne rfl) (or_ne rfl))
          · intro S hc hk hp
            refine o_fptr field33_1 type2 (by decide) T_law34_Step_foc1 rfl rfl guard_none (look_d rfl rfl (pr hp 0 rfl rfl)) (fun _ => rfl) ?_
            exact h_end rfl rfl rfl (hB (fun k => S k || Nat.beq k 16) (S 11) (S 23) (or_ne rfl) (or_ne rfl))
          · intro S hc hk hp
            refine o_load type2 rfl rfl guard_none (look_d rfl rfl (pr hp 0 rfl rfl)) (fun _ => rfl) ?_
            exact h_end rfl rfl rfl (hB (fun k => S k || Nat.beq k 17) (S 11) (S 23) (or_ne rfl) (or_ne rfl))
          · intro S hc hk hp
            refine o_move rfl rfl guard_none (look_o rfl rfl) (fun _ => rfl) ?_
            exact h_end rfl rfl rfl (hB (fun k => S k || Nat.beq k 18) (S 11) (S 23) (or_ne rfl) (or_ne rfl))
          · intro S hc hk hp
            refine o_move rfl rfl guard_none (look_o rfl rfl) (fun _ => rfl) ?_
            exact h_end rfl rfl rfl (hB (fun k => S k || Nat.beq k 19) (S 11) (S 23) (or_ne rfl) (or_ne rfl))
          · intro S hc hk hp
            refine o_from (bind_eqO h_z79) ?_
            refine o_iaddr Try.underlying22 type33 rfl rfl (look_d rfl rfl (pr hp 0 rfl rfl)) (look_d rfl rfl (pr hp 1 rfl rfl)) rfl rfl (o_eqO ?_)
            exact h_end rfl rfl rfl (hB (fun k => S k || Nat.beq k 20) (S 11) (S 23) (or_ne rfl) (or_ne rfl))
          · intro S hc hk hp
            refine o_fptr field33_2 type2 (by decide) T_law34_Step_foc2 rfl rfl guard_none (look_d rfl rfl (pr hp 0 rfl rfl)) (fun _ => rfl) ?_
            exact h_end rfl rfl rfl (hB (fun k => S k || Nat.beq k 21) (S 11) (S 23) (or_ne rfl) (or_ne rfl))
          · intro S hc hk hp
            refine o_load type2 rfl rfl guard_none (look_d rfl rfl (pr hp 0 rfl rfl)) (fun _ => rfl) ?_
            exact h_end rfl rfl rfl (hB (fun k => S k || Nat.beq k 22) (S 11) (S 23) (or_ne rfl) (or_ne rfl))
          · intro S hc hk hp
            refine o_from (bind_eqO h_z80) ?_
            refine eq_H (H' := [.obj true z15 z16 (.dat T_quota_Bucket_rep) (cond (S 11) z76.2 z73.2.1), .obj true z8 z9 (.dat T_quota_Bucket_rep) z73.2.2]) (hB S (S 11) false rfl hk) ?_
            refine o_weak (H' := [.obj true z8 z9 (.dat T_quota_Bucket_rep) z73.2.2] ++ ([] ++ [.obj true z15 z16 (.dat T_quota_Bucket_rep) (cond (S 11) z76.2 z73.2.1)])) (sub_pick [1, 0] rfl rfl) ?_
            refine o_callU rfl rfl rfl rfl rfl callable13 (looks_cons (look_d rfl rfl (pr hp 0 rfl rfl)) (fun _ => rfl) (looks_cons (look_d rfl rfl (pr hp 1 rfl rfl)) (fun _ => rfl) (looks_cons (look_d rfl rfl (pr hp 2 rfl rfl)) (fun _ => rfl) (looks_nil)))) .nil (quota_Bucket_Take_ok _ _ z73.2.2 z78.At z79.N) (fun _ _ => (wr_c wr_n)) (fun _ => o_eqOH ?_)
            refine o_weak (H' := [.obj true z15 z16 (.dat T_quota_Bucket_rep) (cond (S 11) z76.2 z73.2.1), .obj true z8 z9 (.dat T_quota_Bucket_rep) z80.2]) (sub_pick [1, 0] rfl rfl) ?_
            exact h_end rfl rfl rfl (hB (fun k => S k || Nat.beq k 23) (S 11) true (or_ne rfl) (or_i rfl))
          · intro S hc hk hp
            refine o_assign rfl rfl guard_none (look_d rfl rfl (pr hp 0 rfl rfl)) (fun _ => rfl) ?_
            exact h_end rfl rfl rfl (hB (fun k => S k || Nat.beq k 24) (S 11) (S 23) (or_ne rfl) (or_ne rfl))
          · intro S hc hk hp
            refine o_assign rfl rfl guard_none (look_d rfl rfl (pr hp 0 rfl rfl)) (fun _ => rfl) ?_
            exact h_end rfl rfl rfl (hB (fun k => S k || Nat.beq k 25) (S 11) (S 23) (or_ne rfl) (or_ne rfl))
          refine den_seq ?_
          refine den_open (fun z82 h_z82 => ?_)
          refine den_open (fun z83 h_z83 => ?_)
          refine den_open (fun z85 h_z85 => ?_)
          refine den_open (fun z86 h_z86 => ?_)
          refine den_draw [(122, ⟨Rep.bool, z76.1, true⟩), (123, ⟨Rep.bool, z80.1, true⟩), (124, ⟨Rep.bool, z76.1 != z80.1, true⟩), (125, ⟨Rep.bool, z76.1 != z80.1, true⟩), (126, ⟨Rep.addr, (z15, z16), (true && ((z76.1 != z80.1) == false))⟩), (127, ⟨(T_law34_Step_rep).slice, z11, (true && ((z76.1 != z80.1) == false))⟩), (128, ⟨Rep.int .i64, z73.1, (true && ((z76.1 != z80.1) == false))⟩), (129, ⟨(T_law34_Step_rep).ptrTo, z82, (true && ((z76.1 != z80.1) == false))⟩), (130, ⟨(Rep.int .i64).ptrTo, z82.At, (true && ((z76.1 != z80.1) == false))⟩), (131, ⟨Rep.int .i64, z82.At, (true && ((z76.1 != z80.1) == false))⟩), (132, ⟨Rep.int .i64, z83, (true && ((z76.1 != z80.1) == false))⟩), (133, ⟨Rep.addr, (z8, z9), (true && ((z76.1 != z80.1) == false))⟩), (134, ⟨(T_law34_Step_rep).slice, z11, (true && ((z76.1 != z80.1) == false))⟩), (135, ⟨Rep.int .i64, z73.1, (true && ((z76.1 != z80.1) == false))⟩), (136, ⟨(T_law34_Step_rep).ptrTo, z85, (true && ((z76.1 != z80.1) == false))⟩), (137, ⟨(Rep.int .i64).ptrTo, z85.At, (true && ((z76.1 != z80.1) == false))⟩), (138, ⟨Rep.int .i64, z85.At, (true && ((z76.1 != z80.1) == false))⟩), (139, ⟨Rep.int .i64, z86, (true && ((z76.1 != z80.1) == false))⟩), (140, ⟨Rep.bool, z83 != z86, (true && ((z76.1 != z80.1) == false))⟩), (141, ⟨Rep.bool, cond (z76.1 != z80.1) true (z83 != z86), true⟩)] mixed rfl rfl ⟨?_, ?_, ?_, ?_, ?_, ?_, ?_, ?_, ?_, ?_, ?_, ?_, ?_, ?_, ?_, ?_, ?_, ?_, ?_, ?_, trivial⟩ ?_
          · intro S hc hk hp
            refine o_move rfl rfl guard_none (look_o rfl rfl) (fun _ => rfl) ?_
            exact d_end rfl rfl rfl
          · intro S hc hk hp
            refine o_move rfl rfl guard_none (look_o rfl rfl) (fun _ => rfl) ?_
            exact d_end rfl rfl rfl
          · intro S hc hk hp
            refine o_bneq Try.underlying4 rfl rfl guard_none (look_d rfl rfl (pr hp 0 rfl rfl)) (look_d rfl rfl (pr hp 1 rfl rfl)) (fun _ => rfl) (fun _ => rfl) ?_
            exact d_end rfl rfl rfl
          · intro S hc hk hp
            refine o_move rfl rfl guard_none (look_d rfl rfl (pr hp 0 rfl rfl)) (fun _ => rfl) ?_
            exact d_end rfl rfl rfl
          · intro S hc hk hp
            refine o_move rfl rfl (guard_d rfl rfl rfl rfl (pr hp 0 rfl rfl)) (look_o rfl rfl) (fun _ => rfl) ?_
            exact d_end rfl rfl rfl
          · intro S hc hk hp
            refine o_move rfl rfl (guard_d rfl rfl rfl rfl (pr hp 0 rfl rfl)) (look_o rfl rfl) (fun _ => rfl) ?_
            exact d_end rfl rfl rfl
          · intro S hc hk hp
            refine o_move rfl rfl (guard_d rfl rfl rfl rfl (pr hp 0 rfl rfl)) (look_o rfl rfl) (fun _ => rfl) ?_
            exact d_end rfl rfl rfl
          · intro S hc hk hp
            refine o_from (bind_eqO h_z82) ?_
            refine o_iaddrg Try.underlying22 type33 rfl rfl (guard_d rfl rfl rfl rfl (pr hp 2 rfl rfl)) (look_d rfl rfl (pr hp 0 rfl rfl)) (look_d rfl rfl (pr hp 1 rfl rfl)) (fun h => h) (fun h => h) (o_eqO ?_)
            exact d_end rfl rfl rfl
          · intro S hc hk hp
            refine o_fptr field33_1 type2 (by decide) T_law34_Step_foc1 rfl rfl (guard_d rfl rfl rfl rfl (pr hp 1 rfl rfl)) (look_d rfl rfl (pr hp 0 rfl rfl)) (fun h => h) ?_
            exact d_end rfl rfl rfl
          · intro S hc hk hp
            refine o_load type2 rfl rfl (guard_d rfl rfl rfl rfl (pr hp 1 rfl rfl)) (look_d rfl rfl (pr hp 0 rfl rfl)) (fun h => h) ?_
            exact d_end rfl rfl rfl
          · intro S hc hk hp
            refine o_from (bind_eqO h_z83) ?_
            refine o_weak (H' := [] ++ ([.obj true z15 z16 (.dat T_quota_Bucket_rep) z76.2] ++ [.obj true z8 z9 (.dat T_quota_Bucket_rep) z80.2])) (sub_pick [0, 1] rfl rfl) ?_
            refine o_callX (its := []) (0 : Int) () rfl rfl rfl rfl (guard_d rfl rfl rfl rfl (pr hp 2 rfl rfl)) callable17 (looks_cons (look_d rfl rfl (pr hp 0 rfl rfl)) (fun h => h) (looks_cons (look_d rfl rfl (pr hp 1 rfl rfl)) (fun h => h) (looks_nil))) (.cons .nil) (quota_Bucket_At_ok _ _ z76.2 z82.At) (fun _ _ => wr_n) ?_ (fun _ => o_eqOH ?_)
            · exact fun _ => rfl
            refine o_weak (H' := [.obj true z15 z16 (.dat T_quota_Bucket_rep) z76.2, .obj true z8 z9 (.dat T_quota_Bucket_rep) z80.2]) (sub_pick [0, 1] rfl rfl) ?_
            exact d_end rfl rfl rfl
          · intro S hc hk hp
            refine o_move rfl rfl (guard_d rfl rfl rfl rfl (pr hp 0 rfl rfl)) (look_o rfl rfl) (fun _ => rfl) ?_
            exact d_end rfl rfl rfl
          · intro S hc hk hp
            refine o_move rfl rfl (guard_d rfl rfl rfl rfl (pr hp 0 rfl rfl)) (look_o rfl rfl) (fun _ => rfl) ?_
            exact d_end rfl rfl rfl
          · intro S hc hk hp
            refine o_move rfl rfl (guard_d rfl rfl rfl rfl (pr hp 0 rfl rfl)) (look_o rfl rfl) (fun _ => rfl) ?_
            exact d_end rfl rfl rfl
          · intro S hc hk hp
            refine o_from (bind_eqO h_z85) ?_
            refine o_iaddrg Try.underlying22 type33 rfl rfl (guard_d rfl rfl rfl rfl (pr hp 2 rfl rfl)) (look_d rfl rfl (pr hp 0 rfl rfl)) (look_d rfl rfl (pr hp 1 rfl rfl)) (fun h => h) (fun h => h) (o_eqO ?_)
            exact d_end rfl rfl rfl
          · intro S hc hk hp
            refine o_fptr field33_1 type2 (by decide) T_law34_Step_foc1 rfl rfl (guard_d rfl rfl rfl rfl (pr hp 1 rfl rfl)) (look_d rfl rfl (pr hp 0 rfl rfl)) (fun h => h) ?_
            exact d_end rfl rfl rfl
          · intro S hc hk hp
            refine o_load type2 rfl rfl (guard_d rfl rfl rfl rfl (pr hp 1 rfl rfl)) (look_d rfl rfl (pr hp 0 rfl rfl)) (fun h => h) ?_
            exact d_end rfl rfl rfl
          · intro S hc hk hp
            refine o_from (bind_eqO h_z86) ?_
            refine o_weak (H' := [] ++ ([.obj true z8 z9 (.dat T_quota_Bucket_rep) z80.2] ++ [.obj true z15 z16 (.dat T_quota_Bucket_rep) z76.2])) (sub_pick [1, 0] rfl rfl) ?_
            refine o_callX (its := []) (0 : Int) () rfl rfl rfl rfl (guard_d rfl rfl rfl rfl (pr hp 3 rfl rfl)) callable17 (looks_cons (look_d rfl rfl (pr hp 0 rfl rfl)) (fun h => h) (looks_cons (look_d rfl rfl (pr hp 1 rfl rfl)) (fun h => h) (looks_nil))) (.cons .nil) (quota_Bucket_At_ok _ _ z80.2 z85.At) (fun _ _ => wr_n) ?_ (fun _ => o_eqOH ?_)
            · exact fun _ => rfl
            refine o_weak (H' := [.obj true z15 z16 (.dat T_quota_Bucket_rep) z76.2, .obj true z8 z9 (.dat T_quota_Bucket_rep) z80.2]) (sub_pick [1, 0] rfl rfl) ?_
            exact d_end rfl rfl rfl
          · intro S hc hk hp
            refine o_neq rfl rfl (guard_d rfl rfl rfl rfl (pr hp 2 rfl rfl)) (look_d rfl rfl (pr hp 0 rfl rfl)) (look_d rfl rfl (pr hp 1 rfl rfl)) (fun h => h) (fun h => h) ?_
            exact d_end rfl rfl rfl
          · intro S hc hk hp
            refine o_pick rfl rfl guard_none (look_d rfl rfl (pr hp 0 rfl rfl)) look_bool (look_d rfl rfl (pr hp 1 rfl rfl)) (fun _ => rfl) (fun _ _ => rfl) (fun h1 h2 => pick_f ((fun _ => rfl) h1) h2) ?_
            exact d_end rfl rfl rfl
          refine den_cond (look_tmp rfl) ?_ ?_
          · refine den_seq ?_
            refine den_region rfl ?_
            refine o_assign rfl rfl guard_none look_bool (fun _ => rfl) ?_
            refine o_end ?_
            refine den_code_ret ?_
            refine dene_ret ?_
            refine dene_loop (by simp) ?_
            refine dene_ret ?_
            refine dene_both (by simp) ?_
            refine dene_ret ?_
            exact dene_res (res1 rfl (rv_tmp rfl))
          · refine den_skip ?_
            refine den_blkend ?_
            refine den_region rfl ?_
            refine o_move rfl rfl guard_none (look_tmp rfl) (fun _ => rfl) ?_
            refine o_add rfl rfl guard_none (look_tmp rfl) (look_int rfl) (fun _ => rfl) (fun _ => rfl) ?_
            refine o_assign rfl rfl guard_none (look_tmp rfl) (fun _ => rfl) ?_
            refine o_end ?_
            refine den_next ((sub_env (sube_cons rfl (sube_cons rfl (sube_cons rfl (sube_cons rfl (sube_nil)))))))
        · refine den_code_exit ?_
          refine dene_out rfl ?_
          refine dene_loop (by simp) ?_
          refine dene_to rfl ?_
          refine den_endl ((Sub.trans (sub_pick [] rfl rfl) (sub_env (sube_nil))))
      refine den_seq ?_
      refine den_region rfl ?_
      refine o_assign rfl rfl guard_none look_nilp (fun _ => rfl) ?_
      refine o_end ?_
      refine den_seq ?_
      refine den_region rfl ?_
      refine o_build (R := T_quota_Bucket_rep0) (f := T_quota_Bucket_tup) (y := (⟨0, 0, 0, 0, false⟩ : T_quota_Bucket)) shape42 rfl rfl rfl rfl guard_none (bld_zero (z_int rfl) (bld_zero (z_int rfl) (bld_zero (z_int rfl) (bld_zero (z_int rfl) (bld_zero (z_bool rfl) (bld_nil)))))) ?_
      refine o_box rfl rfl (look_tmp rfl) rfl (fun z55 => ?_)
      refine o_assign rfl rfl guard_none (look_tmp rfl) (fun _ => rfl) ?_
      refine o_end ?_
      refine den_seq ?_
      refine den_region rfl ?_
      refine o_move rfl rfl guard_none (look_tmp rfl) (fun _ => rfl) ?_
      refine o_call rfl rfl rfl callable14 (looks_cons (look_tmp rfl) (fun _ => rfl) (looks_cons (look_int rfl) (fun _ => rfl) (looks_cons (look_int rfl) (fun _ => rfl) (looks_nil)))) (quota_Bucket_Wait_n0_ok _ _) (fun z56 => ?_)
      refine o_move rfl rfl guard_none (look_tmp rfl) (fun _ => rfl) ?_
      refine o_fst rfl rfl guard_none (look_tmp rfl) (fun _ => rfl) ?_
      refine o_snd rfl rfl guard_none (look_tmp rfl) (fun _ => rfl) ?_
      refine o_assign rfl rfl guard_none (look_tmp rfl) (fun _ => rfl) ?_
      refine o_assign rfl rfl guard_none (look_tmp rfl) (fun _ => rfl) ?_
      refine o_end ?_
      refine den_seq ?_
      refine den_region rfl ?_
      refine o_move rfl rfl guard_none (look_tmp rfl) (fun _ => rfl) ?_
      refine o_weak (H' := [] ++ ([.obj true z55 0 (.dat T_quota_Bucket_rep) (⟨0, 0, 0, 0, false⟩ : T_quota_Bucket)] ++ [])) (sub_pick [0] rfl rfl) ?_
      refine o_callU rfl rfl rfl rfl rfl callable14 (looks_cons (look_tmp rfl) (fun _ => rfl) (looks_cons (look_int rfl) (fun _ => rfl) (looks_cons (look_int rfl) (fun _ => rfl) (looks_nil)))) (.cons .nil) (quota_Bucket_Wait_ok _ _ (⟨0, 0, 0, 0, false⟩ : T_quota_Bucket) 0 0) (fun _ _ => wr_n) (fun z58α z57 => ?_)
      refine o_weak (H' := [.obj true z55 0 (.dat T_quota_Bucket_rep) (⟨0, 0, 0, 0, false⟩ : T_quota_Bucket)]) (sub_pick [0] rfl rfl) ?_
      refine o_move rfl rfl guard_none (look_tmp rfl) (fun _ => rfl) ?_
      refine o_fst rfl rfl guard_none (look_tmp rfl) (fun _ => rfl) ?_
      refine o_snd rfl rfl guard_none (look_tmp rfl) (fun _ => rfl) ?_
      refine o_assign rfl rfl guard_none (look_tmp rfl) (fun _ => rfl) ?_
      refine o_assign rfl rfl guard_none (look_tmp rfl) (fun _ => rfl) ?_
      refine o_end ?_
      refine den_seq ?_
      refine den_region rfl ?_
      refine o_move rfl rfl guard_none (look_tmp rfl) (fun _ => rfl) ?_
      refine o_call rfl rfl rfl callable17 (looks_cons (look_tmp rfl) (fun _ => rfl) (looks_cons (look_int rfl) (fun _ => rfl) (looks_nil))) (quota_Bucket_At_n0_ok _) (fun z59 => ?_)
      refine o_eql rfl rfl guard_none (look_tmp rfl) (look_int rfl) (fun _ => rfl) (fun _ => rfl) ?_
      refine o_move rfl rfl guard_none (look_tmp rfl) (fun _ => rfl) ?_
      refine o_move rfl rfl (guard_some rfl rfl rfl) (look_tmp rfl) (fun _ => rfl) ?_
      refine o_weak (H' := [] ++ ([.obj true z55 0 (.dat T_quota_Bucket_rep) (⟨0, 0, 0, 0, false⟩ : T_quota_Bucket)] ++ [])) (sub_pick [0] rfl rfl) ?_
      refine o_callX (its := []) (0 : Int) () rfl rfl rfl rfl (guard_some rfl rfl rfl) callable17 (looks_cons (look_tmp rfl) (fun h => h) (looks_cons (look_int rfl) (fun _ => rfl) (looks_nil))) (.cons .nil) (quota_Bucket_At_ok _ _ (⟨0, 0, 0, 0, false⟩ : T_quota_Bucket) 1) (fun _ _ => wr_n) ?_ (fun z61α z60 => ?_)
      · exact fun _ => rfl
      refine o_weak (H' := [.obj true z55 0 (.dat T_quota_Bucket_rep) (⟨0, 0, 0, 0, false⟩ : T_quota_Bucket)]) (sub_pick [0] rfl rfl) ?_
      refine o_eql rfl rfl (guard_some rfl rfl rfl) (look_tmp rfl) (look_int rfl) (fun h => h) (fun _ => rfl) ?_
      refine o_pick rfl rfl guard_none (look_tmp rfl) (look_tmp rfl) look_bool (fun _ => rfl) (fun h1 h2 => pick_t ((fun _ => rfl) h1) h2) (fun _ _ => rfl) ?_
      refine o_move rfl rfl guard_none (look_tmp rfl) (fun _ => rfl) ?_
      refine o_move rfl rfl (guard_some rfl rfl rfl) (look_tmp rfl) (fun _ => rfl) ?_
      refine o_callg rfl rfl rfl (guard_some rfl rfl rfl) callable13 (looks_cons (look_tmp rfl) (fun h => h) (looks_cons (look_int rfl) (fun _ => rfl) (looks_cons (look_int rfl) (fun _ => rfl) (looks_nil)))) (quota_Bucket_Take_n0_ok _ _) (fun z62 => ?_)
      refine o_not rfl rfl (guard_some rfl rfl rfl) (look_tmp rfl) (fun h => h) ?_
      refine o_pick rfl rfl guard_none (look_tmp rfl) (look_tmp rfl) look_bool (fun _ => rfl) (fun h1 h2 => pick_t ((fun _ => rfl) h1) h2) (fun _ _ => rfl) ?_
      refine o_move rfl rfl guard_none (look_tmp rfl) (fun _ => rfl) ?_
      refine o_move rfl rfl (guard_some rfl rfl rfl) (look_tmp rfl) (fun _ => rfl) ?_
      refine o_weak (H' := [.obj true z55 0 (.dat T_quota_Bucket_rep) (⟨0, 0, 0, 0, false⟩ : T_quota_Bucket)] ++ ([] ++ [])) (sub_pick [0] rfl rfl) ?_
      refine o_callX (its := [.obj true z55 0 (.dat T_quota_Bucket_rep) (⟨0, 0, 0, 0, false⟩ : T_quota_Bucket)]) ((false, (⟨0, 0, 0, 0, false⟩ : T_quota_Bucket)) : (Bool × T_quota_Bucket)) () rfl rfl rfl rfl (guard_some rfl rfl rfl) callable13 (looks_cons (look_tmp rfl) (fun h => h) (looks_cons (look_int rfl) (fun _ => rfl) (looks_cons (look_int rfl) (fun _ => rfl) (looks_nil)))) .nil (quota_Bucket_Take_ok _ _ (⟨0, 0, 0, 0, false⟩ : T_quota_Bucket) 1 0) (fun _ _ => (wr_c wr_n)) ?_ (fun z64α z63 => ?_)
      · exact fun _ => rfl
      refine o_weak (H' := [.obj true z55 0 (.dat T_quota_Bucket_rep) z63.2]) (sub_pick [0] rfl rfl) ?_
      refine o_not rfl rfl (guard_some rfl rfl rfl) (look_tmp rfl) (fun h => h) ?_
      refine o_pick rfl rfl guard_none (look_tmp rfl) (look_tmp rfl) look_bool (fun _ => rfl) (fun h1 h2 => pick_t ((fun _ => rfl) h1) h2) (fun _ _ => rfl) ?_
      refine o_move rfl rfl guard_none (look_tmp rfl) (fun _ => rfl) ?_
      refine o_move rfl rfl (guard_some rfl rfl rfl) (look_tmp rfl) (fun _ => rfl) ?_
      refine o_not rfl rfl (guard_some rfl rfl rfl) (look_tmp rfl) (fun h => h) ?_
      refine o_pick rfl rfl guard_none (look_tmp rfl) (look_tmp rfl) look_bool (fun _ => rfl) (fun h1 h2 => pick_t ((fun _ => rfl) h1) h2) (fun _ _ => rfl) ?_
      refine o_move rfl rfl guard_none (look_tmp rfl) (fun _ => rfl) ?_
      refine o_move rfl rfl (guard_some rfl rfl rfl) (look_tmp rfl) (fun _ => rfl) ?_
      refine o_not rfl rfl (guard_some rfl rfl rfl) (look_tmp rfl) (fun h => h) ?_
      refine o_pick rfl rfl guard_none (look_tmp rfl) (look_tmp rfl) look_bool (fun _ => rfl) (fun h1 h2 => pick_t ((fun _ => rfl) h1) h2) (fun _ _ => rfl) ?_
      refine o_move rfl rfl guard_none (look_tmp rfl) (fun _ => rfl) ?_
      refine o_move rfl rfl (guard_some rfl rfl rfl) (look_tmp rfl) (fun _ => rfl) ?_
      refine o_callg rfl rfl rfl (guard_some rfl rfl rfl) callable16 (looks_cons (look_tmp rfl) (fun h => h) (looks_nil)) (quota_Bucket_Clone_n0_ok) (fun z65 => ?_)
      refine o_neql Try.underlying24 rfl rfl (guard_some rfl rfl rfl) (look_tmp rfl) (fun h => h) ?_
      refine o_pick rfl rfl guard_none (look_tmp rfl) (look_tmp rfl) look_bool (fun _ => rfl) (fun h1 h2 => pick_t ((fun _ => rfl) h1) h2) (fun _ _ => rfl) ?_
      refine o_move rfl rfl guard_none (look_tmp rfl) (fun _ => rfl) ?_
      refine o_move rfl rfl (guard_some rfl rfl rfl) (look_tmp rfl) (fun _ => rfl) ?_
      refine o_weak (H' := [] ++ ([.obj true z55 0 (.dat T_quota_Bucket_rep) z63.2] ++ [])) (sub_pick [0] rfl rfl) ?_
      refine o_callX (its := []) (none : (Option T_quota_Bucket)) (0, 0) rfl rfl rfl rfl (guard_some rfl rfl rfl) callable16 (looks_cons (look_tmp rfl) (fun h => h) (looks_nil)) (.cons .nil) (quota_Bucket_Clone_ok _ _ z63.2) (fun _ _ => (wr_ol (fun _ => (wr_c wr_n)) wr_n)) ?_ (fun z67α z66 => ?_)
      · exact fun _ => rfl
      obtain ⟨z68, z69⟩ := z67α
      rcases z66 with _ | z70
      · refine o_weak (H' := [.obj true z55 0 (.dat T_quota_Bucket_rep) z63.2]) (sub_pick [0] rfl rfl) ?_
        refine o_asnil ?_
        refine o_optn ?_
        refine o_neql Try.underlying24 rfl rfl (guard_some rfl rfl rfl) (look_tmp rfl) (fun h => h) ?_
        refine o_pick rfl rfl guard_none (look_tmp rfl) (look_tmp rfl) look_bool (fun _ => rfl) (fun h1 h2 => pick_t ((fun _ => rfl) h1) h2) (fun _ _ => rfl) ?_
        refine o_assign rfl rfl guard_none (look_tmp rfl) (fun _ => rfl) ?_
        refine o_lt (fun z71 => ?_)
        refine o_end ?_
        refine den_code_ret ?_
        exact dene_res (res1 rfl (rv_tmp rfl))
      · refine o_weak (H' := [.obj true z68 z69 (.dat T_quota_Bucket_rep) z70, .obj true z55 0 (.dat T_quota_Bucket_rep) z63.2]) (sub_pick [0, 1] rfl rfl) ?_
        refine o_asptr ?_
        refine o_opts ?_
        refine o_peql Try.underlying24 rfl rfl (guard_some rfl rfl rfl) (look_tmp rfl) (fun h => h) ?_
        refine o_pick rfl rfl guard_none (look_tmp rfl) (look_tmp rfl) look_bool (fun _ => rfl) (fun h1 h2 => pick_t ((fun _ => rfl) h1) h2) (fun _ _ => rfl) ?_
        refine o_assign rfl rfl guard_none (look_tmp rfl) (fun _ => rfl) ?_
        refine o_lt (fun z72 => ?_)
        refine o_end ?_
        refine den_code_ret ?_
        exact dene_res (res1 rfl (rv_tmp rfl))

theorem law34_QuotaBound_ok  (size_0 : Int) (rate_1 : Int) (l_2 : (List T_law34_Step)) : FunOk Try.prog 6 [⟨Rep.int .i64, size_0, true⟩, ⟨Rep.int .i64, rate_1, true⟩, ⟨(T_law34_Step_rep).slice, l_2, true⟩] (law34_QuotaBound size_0 rate_1 l_2) (Rep.bool) := by
  refine fun_ok Try.func6 rfl Try.ntmps6 rfl (all_cons rfl (all_cons rfl (all_cons rfl all_nil))) (fun w0 ok0 => ?_)
  refine den_seq ?_
  refine den_region rfl ?_
  refine o_assign rfl rfl guard_none look_bool (fun _ => rfl) ?_
  refine o_end ?_
  refine den_seq ?_
  refine den_seq ?_
  refine den_region rfl ?_
  refine o_call rfl rfl rfl callable8 (looks_nil) (law34_alive_ok) (fun z1 => ?_)
  refine o_not rfl rfl guard_none (look_tmp rfl) (fun _ => rfl) ?_
  refine o_end ?_
  refine den_cond (look_tmp rfl) ?_ ?_
  · refine den_seq ?_
    refine den_region rfl ?_
    refine o_assign rfl rfl guard_none look_bool (fun _ => rfl) ?_
    refine o_end ?_
    refine den_code_ret ?_
    refine dene_ret ?_
    exact dene_res (res1 rfl (rv_tmp rfl))
  · refine den_skip ?_
    refine den_seq ?_
    refine den_region rfl ?_
    refine o_move rfl rfl guard_none (look_tmp rfl) (fun _ => rfl) ?_
    refine o_move rfl rfl guard_none (look_tmp rfl) (fun _ => rfl) ?_
    refine o_weak (H' := [] ++ ([] ++ [])) (sub_pick [] rfl rfl) ?_
    refine o_callU rfl rfl rfl rfl rfl callable9 (looks_cons (look_tmp rfl) (fun _ => rfl) (looks_cons (look_tmp rfl) (fun _ => rfl) (looks_nil))) .nil (quota_New_ok size_0 rate_1) (fun _ _ => (wr_c wr_n)) (fun z3α z2 => ?_)
    obtain ⟨z4, z5⟩ := z3α
    refine o_weak (H' := [.obj true z4 z5 (.dat T_quota_Bucket_rep) z2]) (sub_pick [0] rfl rfl) ?_
    refine o_move rfl rfl guard_none (look_tmp rfl) (fun _ => rfl) ?_
    refine o_move rfl rfl guard_none (look_tmp rfl) (fun _ => rfl) ?_
    refine o_call rfl rfl rfl callable10 (looks_cons (look_tmp rfl) (fun _ => rfl) (looks_cons (look_tmp rfl) (fun _ => rfl) (looks_nil))) (law34_begin_ok _ _) (fun z6 => ?_)
    refine o_alloc zero27 rfl rfl (fun z7 => ?_)
    refine o_assign rfl rfl guard_none (look_tmp rfl) (fun _ => rfl) ?_
    refine o_ostore type27 foc_self guard_none (look_tmp rfl) (fun _ => rfl) (look_tmp rfl) (fun _ => rfl) ?_
    refine o_end ?_
    refine den_seq ?_
    refine den_region rfl ?_
    refine o_assign rfl rfl guard_none look_nil1 (fun _ => rfl) ?_
    refine o_assign rfl rfl guard_none look_nil1 (fun _ => rfl) ?_
    refine o_end ?_
    refine den_seq ?_
    refine den_region rfl ?_
    refine o_assign rfl rfl guard_none (look_int rfl) (fun _ => rfl) ?_
    refine o_end ?_
    refine den_seq ?_
    refine den_region rfl ?_
    refine o_move rfl rfl guard_none (look_tmp rfl) (fun _ => rfl) ?_
    refine o_call rfl rfl rfl callable11 (looks_cons (look_tmp rfl) (fun _ => rfl) (looks_nil)) (law34_few_ok _) (fun z8 => ?_)
    refine o_assign rfl rfl guard_none (look_tmp rfl) (fun _ => rfl) ?_
    refine o_end ?_
    refine den_seq ?_
    refine den_seq ?_
    refine den_region rfl ?_
    refine o_assign rfl rfl guard_none (look_int rfl) (fun _ => rfl) ?_
    refine o_end ?_
    refine den_both (fun z9 => []) (fun z9 => []) ?_ (fun z9 => ?_)
    · refine den_block ?_
      refine den_loopA (A := (Value × Value)) (law34_QuotaBound_L1b z6 z8) (fun z10α z10 => [(11, ⟨Rep.int .i64, z10.1, true⟩), (12, ⟨Rep.int .i64, z10.2.1, true⟩), (2, ⟨(T_law34_Step_rep).slice, z8, true⟩), (7, ⟨Rep.addr, (z4, z5), true⟩), (8, ⟨Rep.addr, (z7, 0), true⟩), (9, ⟨Rep.val1, z10α.1, true⟩), (10, ⟨Rep.val1, z10α.2, true⟩)]) (fun z10α z10 => [.obj true z7 0 (.dat T_law34_room_rep) z6, .obj true z4 z5 (.dat T_quota_Bucket_rep) z10.2.2.1, .vec z10α.1 (Rep.int .i64) z10.2.2.2.1, .vec z10α.2 (Rep.int .i64) z10.2.2.2.2]) (0, 0, z2, ([] : (List Int)), ([] : (List Int))) ((Value.slice none 0 0), (Value.slice none 0 0)) (fun z10α z10 => ?_) ((Sub.trans (sub_nilvec (R := Rep.int .i64) rfl) (Sub.trans (sub_nilvec (R := Rep.int .i64) rfl) (Sub.trans (sub_pick [2, 3, 1, 0] rfl rfl) (sub_env (sube_cons rfl (sube_cons rfl (sube_cons rfl (sube_cons rfl (sube_cons rfl (sube_cons rfl (sube_cons rfl (sube_nil)))))))))))))
      refine den_seq ?_
      refine den_seq ?_
      refine den_region rfl ?_
      refine o_move rfl rfl guard_none (look_tmp rfl) (fun _ => rfl) ?_
      refine o_move rfl rfl guard_none (look_tmp rfl) (fun _ => rfl) ?_
      refine o_llen Try.underlying22 rfl rfl guard_none (look_tmp rfl) (fun _ => rfl) ?_
      refine o_lss rfl rfl guard_none (look_tmp rfl) (look_tmp rfl) (fun _ => rfl) (fun _ => rfl) ?_
      refine o_end ?_
      refine den_cond (look_tmp rfl) ?_ ?_
      · refine den_skip ?_
        refine den_seq ?_
        refine den_block ?_
        refine den_seq ?_
        refine den_region rfl ?_
        refine o_move rfl rfl guard_none (look_tmp rfl) (fun _ => rfl) ?_
        refine o_move rfl rfl guard_none (look_tmp rfl) (fun _ => rfl) ?_
        refine o_move rfl rfl guard_none (look_tmp rfl) (fun _ => rfl) ?_
        refine o_iaddr Try.underlying22 type33 rfl rfl (look_tmp rfl) (look_tmp rfl) rfl rfl (fun z11 => ?_)
        refine o_fptr field33_1 type2 (by decide) T_law34_Step_foc1 rfl rfl guard_none (look_tmp rfl) (fun _ => rfl) ?_
        refine o_load type2 rfl rfl guard_none (look_tmp rfl) (fun _ => rfl) ?_
        refine o_max2 rfl rfl guard_none (look_tmp rfl) (look_tmp rfl) (fun _ => rfl) (fun _ => rfl) ?_
        refine o_assign rfl rfl guard_none (look_tmp rfl) (fun _ => rfl) ?_
        refine o_end ?_
        refine den_seq ?_
        refine den_region rfl ?_
        refine o_assign rfl rfl guard_none (look_int rfl) (fun _ => rfl) ?_
        refine o_end ?_
        refine den_seq ?_
        refine den_seq ?_
        refine den_open (fun z12 h_z12 => ?_)
        refine den_open (fun z13 h_z13 => ?_)
        refine den_open (fun z14 h_z14 => ?_)
        have hB : ∀ (S : Nat → Bool) (b11 : Bool), S 11 = b11 → ((fun S => [.obj true z7 0 (.dat T_law34_room_rep) z6, .obj true z4 z5 (.dat T_quota_Bucket_rep) (cond (S 11) z14.2 z10.2.2.1), .vec z10α.1 (Rep.int .i64) z10.2.2.2.1, .vec z10α.2 (Rep.int .i64) z10.2.2.2.2] : (Nat → Bool) → List Go.Eng.Item) S) = ([.obj true z7 0 (.dat T_law34_room_rep) z6, .obj true z4 z5 (.dat T_quota_Bucket_rep) (cond b11 z14.2 z10.2.2.1), .vec z10α.1 (Rep.int .i64) z10.2.2.2.1, .vec z10α.2 (Rep.int .i64) z10.2.2.2.2] : List Go.Eng.Item) := fun S b11 h11 => by subst h11; rfl
        refine den_drawH (H' := [.obj true z7 0 (.dat T_law34_room_rep) z6, .obj true z4 z5 (.dat T_quota_Bucket_rep) z14.2, .vec z10α.1 (Rep.int .i64) z10.2.2.2.1, .vec z10α.2 (Rep.int .i64) z10.2.2.2.2]) [(43, ⟨Rep.addr, (z4, z5), true⟩), (44, ⟨(T_law34_Step_rep).slice, z8, true⟩), (45, ⟨Rep.int .i64, z10.2.1, true⟩), (46, ⟨(T_law34_Step_rep).ptrTo, z12, true⟩), (47, ⟨(Rep.int .i64).ptrTo, z12.At, true⟩), (48, ⟨Rep.int .i64, z12.At, true⟩), (49, ⟨(T_law34_Step_rep).slice, z8, true⟩), (50, ⟨Rep.int .i64, z10.2.1, true⟩), (51, ⟨(T_law34_Step_rep).ptrTo, z13, true⟩), (52, ⟨(Rep.int .i64).ptrTo, z13.N, true⟩), (53, ⟨Rep.int .i64, z13.N, true⟩), (54, ⟨Rep.bool, z14.1, true⟩)] (fun S => [.obj true z7 0 (.dat T_law34_room_rep) z6, .obj true z4 z5 (.dat T_quota_Bucket_rep) (cond (S 11) z14.2 z10.2.2.1), .vec z10α.1 (Rep.int .i64) z10.2.2.2.1, .vec z10α.2 (Rep.int .i64) z10.2.2.2.2]) mixed rfl rfl rfl (fun S hS => hB S true (hS 11 (by decide))) ⟨?_, ?_, ?_, ?_, ?_, ?_, ?_, ?_, ?_, ?_, ?_, ?_, trivial⟩ ?_
        · intro S hc hk hp
          refine o_move rfl rfl guard_none (look_o rfl rfl) (fun _ => rfl) ?_
          exact h_end rfl rfl rfl (hB (fun k => S k || Nat.beq k 0) (S 11) (or_ne rfl))
        · intro S hc hk hp
          refine o_move rfl rfl guard_none (look_o rfl rfl) (fun _ => rfl) ?_
          exact h_end rfl rfl rfl (hB (fun k => S k || Nat.beq k 1) (S 11) (or_ne rfl))
        · intro S hc hk hp
          refine o_move rfl rfl guard_none (look_o rfl rfl) (fun _ => rfl) ?_
          exact h_end rfl rfl rfl (hB (fun k => S k || Nat.beq k 2) (S 11) (or_ne rfl))
        · intro S hc hk hp
          refine o_from (bind_eqO h_z12) ?_
          refine o_iaddr Try.underlying22 type33 rfl rfl (look_d rfl rfl (pr hp 0 rfl rfl)) (look_d rfl rfl (pr hp 1 rfl rfl)) rfl rfl (o_eqO ?_)
          exact h_end rfl rfl rfl (hB (fun k => S k || Nat.beq k 3) (S 11) (or_ne rfl))
        · intro S hc hk hp
          refine o_fptr field33_1 type2 (by decide) T_law34_Step_foc1 rfl rfl guard_none (look_d rfl rfl (pr hp 0 rfl rfl)) (fun _ => rfl) ?_
          exact h_end rfl rfl rfl (hB (fun k => S k || Nat.beq k 4) (S 11) (or_ne rfl))
        · intro S hc hk hp
          refine o_load type2 rfl rfl guard_none (look_d rfl rfl (pr hp 0 rfl rfl)) (fun _ => rfl) ?_
          exact h_end rfl rfl rfl (hB (fun k => S k || Nat.beq k 5) (S 11) (or_ne rfl))
        · intro S hc hk hp
          refine o_move rfl rfl guard_none (look_o rfl rfl) (fun _ => rfl) ?_
          exact h_end rfl rfl rfl (hB (fun k => S k || Nat.beq k 6) (S 11) (or_ne rfl))
        · intro S hc hk hp
          refine o_move rfl rfl guard_none (look_o rfl rfl) (fun _ => rfl) ?_
          exact h_end rfl rfl rfl (hB (fun k => S k || Nat.beq k 7) (S 11) (or_ne rfl))
        · intro S hc hk hp
          refine o_from (bind_eqO h_z13) ?_
          refine o_iaddr Try.underlying22 type33 rfl rfl (look_d rfl rfl (pr hp 0 rfl rfl)) (look_d rfl rfl (pr hp 1 rfl rfl)) rfl rfl (o_eqO ?_)
          exact h_end rfl rfl rfl (hB (fun k => S k || Nat.beq k 8) (S 11) (or_ne rfl))
        · intro S hc hk hp
          refine o_fptr field33_2 type2 (by decide) T_law34_Step_foc2 rfl rfl guard_none (look_d rfl rfl (pr hp 0 rfl rfl)) (fun _ => rfl) ?_
          exact h_end rfl rfl rfl (hB (fun k => S k || Nat.beq k 9) (S 11) (or_ne rfl))
        · intro S hc hk hp
          refine o_load type2 rfl rfl guard_none (look_d rfl rfl (pr hp 0 rfl rfl)) (fun _ => rfl) ?_
          exact h_end rfl rfl rfl (hB (fun k => S k || Nat.beq k 10) (S 11) (or_ne rfl))
        · intro S hc hk hp
          refine o_from (bind_eqO h_z14) ?_
          refine eq_H (H' := [.obj true z7 0 (.dat T_law34_room_rep) z6, .obj true z4 z5 (.dat T_quota_Bucket_rep) z10.2.2.1, .vec z10α.1 (Rep.int .i64) z10.2.2.2.1, .vec z10α.2 (Rep.int .i64) z10.2.2.2.2]) (hB S false hk) ?_
          refine o_weak (H' := [.obj true z4 z5 (.dat T_quota_Bucket_rep) z10.2.2.1] ++ ([] ++ [.obj true z7 0 (.dat T_law34_room_rep) z6, .vec z10α.1 (Rep.int .i64) z10.2.2.2.1, .vec z10α.2 (Rep.int .i64) z10.2.2.2.2])) (sub_pick [1, 0, 2, 3] rfl rfl) ?_
          refine o_callU rfl rfl rfl rfl rfl callable13 (looks_cons (look_d rfl rfl (pr hp 0 rfl rfl)) (fun _ => rfl) (looks_cons (look_d rfl rfl (pr hp 1 rfl rfl)) (fun _ => rfl) (looks_cons (look_d rfl rfl (pr hp 2 rfl rfl)) (fun _ => rfl) (looks_nil)))) .nil (quota_Bucket_Take_ok _ _ z10.2.2.1 z12.At z13.N) (fun _ _ => (wr_c wr_n)) (fun _ => o_eqOH ?_)
          refine o_weak (H' := [.obj true z7 0 (.dat T_law34_room_rep) z6, .obj true z4 z5 (.dat T_quota_Bucket_rep) z14.2, .vec z10α.1 (Rep.int .i64) z10.2.2.2.1, .vec z10α.2 (Rep.int .i64) z10.2.2.2.2]) (sub_pick [1, 0, 2, 3] rfl rfl) ?_
          exact h_end rfl rfl rfl (hB (fun k => S k || Nat.beq k 11) true (or_i rfl))
        refine den_bind (fun z16 => [(13, ⟨Rep.int .i64, z16, true⟩), (2, ⟨(T_law34_Step_rep).slice, z8, true⟩), (7, ⟨Rep.addr, (z4, z5), true⟩), (8, ⟨Rep.addr, (z7, 0), true⟩), (9, ⟨Rep.val1, z10α.1, true⟩), (10, ⟨Rep.val1, z10α.2, true⟩), (11, ⟨Rep.int .i64, max z10.1 z11.At, true⟩), (12, ⟨Rep.int .i64, z10.2.1, true⟩)]) (fun z16 => [.obj true z7 0 (.dat T_law34_room_rep) z6, .obj true z4 z5 (.dat T_quota_Bucket_rep) z14.2, .vec z10α.1 (Rep.int .i64) z10.2.2.2.1, .vec z10α.2 (Rep.int .i64) z10.2.2.2.2]) ?_ (fun z16 => ?_)
        · refine den_cond (look_tmp rfl) ?_ ?_
          · refine den_region rfl ?_
            refine o_move rfl rfl guard_none (look_tmp rfl) (fun _ => rfl) ?_
            refine o_move rfl rfl guard_none (look_tmp rfl) (fun _ => rfl) ?_
            refine o_iaddr Try.underlying22 type33 rfl rfl (look_tmp rfl) (look_tmp rfl) rfl rfl (fun z28 => ?_)
            refine o_fptr field33_2 type2 (by decide) T_law34_Step_foc2 rfl rfl guard_none (look_tmp rfl) (fun _ => rfl) ?_
            refine o_load type2 rfl rfl guard_none (look_tmp rfl) (fun _ => rfl) ?_
            refine o_assign rfl rfl guard_none (look_tmp rfl) (fun _ => rfl) ?_
            refine o_end ?_
            refine den_end ((sub_env (sube_cons rfl (sube_cons rfl (sube_cons rfl (sube_cons rfl (sube_cons rfl (sube_cons rfl (sube_cons rfl (sube_cons rfl (sube_nil)))))))))))
          · refine den_skip ?_
            refine den_end ((sub_env (sube_cons rfl (sube_cons rfl (sube_cons rfl (sube_cons rfl (sube_cons rfl (sube_cons rfl (sube_cons rfl (sube_cons rfl (sube_nil)))))))))))
        refine den_seq ?_
        refine den_seq ?_
        refine den_region rfl ?_
        refine o_move rfl rfl guard_none (look_tmp rfl) (fun _ => rfl) ?_
        refine o_lss rfl rfl guard_none (look_tmp rfl) (look_int rfl) (fun _ => rfl) (fun _ => rfl) ?_
        refine o_move rfl rfl guard_none (look_tmp rfl) (fun _ => rfl) ?_
        refine o_move rfl rfl (guard_some rfl rfl rfl) (look_tmp rfl) (fun _ => rfl) ?_
        refine o_faddr field27_0 type2 (by decide) rfl rfl (guard_some rfl rfl rfl) (look_tmp rfl) (fun _ => rfl) ?_
        refine o_oloadi 0 rfl type2 T_law34_room_foc0 rfl (guard_some rfl rfl rfl) (look_tmp rfl) (fun h => h) ?_
        refine o_gtr rfl rfl (guard_some rfl rfl rfl) (look_tmp rfl) (look_tmp rfl) (fun h => h) (fun h => h) ?_
        refine o_pick rfl rfl guard_none (look_tmp rfl) look_bool (look_tmp rfl) (fun _ => rfl) (fun _ _ => rfl) (fun h1 h2 => pick_f ((fun _ => rfl) h1) h2) ?_
        refine o_end ?_
        refine den_cond (look_tmp rfl) ?_ ?_
        · refine den_seq ?_
          refine den_region rfl ?_
          refine o_assign rfl rfl guard_none look_bool (fun _ => rfl) ?_
          refine o_end ?_
          refine den_code_ret ?_
          refine dene_ret ?_
          refine dene_loopA (by simp) ?_
          refine dene_ret ?_
          refine dene_both (by simp) ?_
          refine dene_ret ?_
          exact dene_res (res1 rfl (rv_tmp rfl))
        · refine den_skip ?_
          refine den_seq ?_
          refine den_region rfl ?_
          refine o_move rfl rfl guard_none (look_tmp rfl) (fun _ => rfl) ?_
          refine o_move rfl rfl guard_none (look_tmp rfl) (fun _ => rfl) ?_
          refine o_bslice Try.underlying44 (info_i info2) (info_z info2) type2 rfl rfl rfl rfl rfl rfl guard_none (looksL_cons (look_tmp rfl) (fun _ => rfl) (looksL_nil)) ?_
          refine o_weak (H' := [.vec z10α.1 (Rep.int .i64) z10.2.2.2.1, .obj true z7 0 (.dat T_law34_room_rep) z6, .obj true z4 z5 (.dat T_quota_Bucket_rep) z14.2, .vec z10α.2 (Rep.int .i64) z10.2.2.2.2]) (sub_pick [2, 0, 1, 3] rfl rfl) ?_
          refine o_append Try.underlying44 (info_i info2) (info_z info2) (info_all info2).2.1 rfl (info_all info2).2.2 rfl (look_tmp rfl) rfl (feeds_slice Try.underlying44 rfl (look_tmp rfl) rfl) (fun z18 z17 => ?_)
          refine o_move rfl rfl guard_none (look_tmp rfl) (fun _ => rfl) ?_
          refine o_move rfl rfl guard_none (look_tmp rfl) (fun _ => rfl) ?_
          refine o_bslice Try.underlying44 (info_i info2) (info_z info2) type2 rfl rfl rfl rfl rfl rfl guard_none (looksL_cons (look_tmp rfl) (fun _ => rfl) (looksL_nil)) ?_
          refine o_weak (H' := [.vec z10α.2 (Rep.int .i64) z10.2.2.2.2, .vec z18 (Rep.int .i64) z17, .obj true z7 0 (.dat T_law34_room_rep) z6, .obj true z4 z5 (.dat T_quota_Bucket_rep) z14.2]) (sub_pick [3, 0, 1, 2] rfl rfl) ?_
          refine o_append Try.underlying44 (info_i info2) (info_z info2) (info_all info2).2.1 rfl (info_all info2).2.2 rfl (look_tmp rfl) rfl (feeds_slice Try.underlying44 rfl (look_tmp rfl) rfl) (fun z20 z19 => ?_)
          refine o_assign rfl rfl guard_none (look_tmp rfl) (fun _ => rfl) ?_
          refine o_assign rfl rfl guard_none (look_tmp rfl) (fun _ => rfl) ?_
          refine o_end ?_
          refine den_seq ?_
          refine den_region rfl ?_
          refine o_assign rfl rfl guard_none (look_int rfl) (fun _ => rfl) ?_
          refine o_end ?_
          refine den_seq ?_
          refine den_region rfl ?_
          refine o_move rfl rfl guard_none (look_tmp rfl) (fun _ => rfl) ?_
          refine o_assign rfl rfl guard_none (look_tmp rfl) (fun _ => rfl) ?_
          refine o_end ?_
          refine den_both (fun z21 => [(2, ⟨(T_law34_Step_rep).slice, z8, true⟩), (7, ⟨Rep.addr, (z4, z5), true⟩), (8, ⟨Rep.addr, (z7, 0), true⟩), (9, ⟨Rep.val1, z18, true⟩), (10, ⟨Rep.val1, z20, true⟩), (11, ⟨Rep.int .i64, max z10.1 z11.At, true⟩), (12, ⟨Rep.int .i64, z10.2.1, true⟩)]) (fun z21 => [.vec z20 (Rep.int .i64) z19, .vec z18 (Rep.int .i64) z17, .obj true z7 0 (.dat T_law34_room_rep) z6, .obj true z4 z5 (.dat T_quota_Bucket_rep) z14.2]) ?_ (fun z21 => ?_)
          · refine den_block ?_
            refine den_loop (law34_QuotaBound_L2b z6 z10 z11 z17 z19) (fun z22 => [(14, ⟨Rep.int .i64, z22.1, true⟩), (15, ⟨Rep.int .i64, z22.2, true⟩), (2, ⟨(T_law34_Step_rep).slice, z8, true⟩), (7, ⟨Rep.addr, (z4, z5), true⟩), (8, ⟨Rep.addr, (z7, 0), true⟩), (9, ⟨Rep.val1, z18, true⟩), (10, ⟨Rep.val1, z20, true⟩), (11, ⟨Rep.int .i64, max z10.1 z11.At, true⟩), (12, ⟨Rep.int .i64, z10.2.1, true⟩)]) (fun z22 => [.vec z20 (Rep.int .i64) z19, .vec z18 (Rep.int .i64) z17, .obj true z7 0 (.dat T_law34_room_rep) z6, .obj true z4 z5 (.dat T_quota_Bucket_rep) z14.2]) (0, z10.2.1) (fun z22 => ?_) ((sub_env (sube_cons rfl (sube_cons rfl (sube_cons rfl (sube_cons rfl (sube_cons rfl (sube_cons rfl (sube_cons rfl (sube_cons rfl (sube_cons rfl (sube_nil))))))))))))
            refine den_seq ?_
            refine den_seq ?_
            refine den_region rfl ?_
            refine o_move rfl rfl guard_none (look_tmp rfl) (fun _ => rfl) ?_
            refine o_geq rfl rfl guard_none (look_tmp rfl) (look_int rfl) (fun _ => rfl) (fun _ => rfl) ?_
            refine o_end ?_
            refine den_cond (look_tmp rfl) ?_ ?_
            · refine den_skip ?_
              refine den_seq ?_
              refine den_block ?_
              refine den_seq ?_
              refine den_region rfl ?_
              refine o_move rfl rfl guard_none (look_tmp rfl) (fun _ => rfl) ?_
              refine o_move rfl rfl guard_none (look_tmp rfl) (fun _ => rfl) ?_
              refine o_move rfl rfl guard_none (look_tmp rfl) (fun _ => rfl) ?_
              refine o_vaddrh 0 (.inl rfl) Try.underlying44 type2 rfl (look_tmp rfl) (look_tmp rfl) rfl rfl (fun z23 h_z23 => ?_)
              refine o_vload (j := z23) (u := (z19.getD z23 0)) 0 (.inl rfl) type2 rfl guard_none (fun _ => at_get rfl h_z23) (look_tmp rfl) (fun _ => rfl) ?_
              refine o_add rfl rfl guard_none (look_tmp rfl) (look_tmp rfl) (fun _ => rfl) (fun _ => rfl) ?_
              refine o_assign rfl rfl guard_none (look_tmp rfl) (fun _ => rfl) ?_
              refine o_lt (fun sum24 => ?_)
              refine o_end ?_
              refine den_seq ?_
              refine den_open (fun z25 h_z25 => ?_)
              refine den_open (fun z26 h_z26 => ?_)
              refine den_draw [(88, ⟨Rep.addr, (z7, 0 + 1), true⟩), (89, ⟨Rep.int .i64, z6.rate, true⟩), (90, ⟨Rep.int .i64, max z10.1 z11.At, true⟩), (91, ⟨Rep.val1, z18, true⟩), (92, ⟨Rep.int .i64, z22.2, true⟩), (93, ⟨Rep.val1, (vptr z18 (Rep.int .i64).size z25), true⟩), (94, ⟨Rep.int .i64, (z17.getD z25 0), true⟩), (95, ⟨Rep.int .i64, IntKind.i64.wrap ((max z10.1 z11.At) - (z17.getD z25 0)), true⟩), (96, ⟨Rep.pair (Rep.int .i64) (Rep.bool), z26, true⟩), (87, ⟨Rep.pair (Rep.int .i64) (Rep.bool), z26, true⟩), (97, ⟨Rep.int .i64, z26.1, true⟩), (98, ⟨Rep.bool, z26.2, true⟩), (16, ⟨Rep.int .i64, z26.1, true⟩), (17, ⟨Rep.bool, z26.2, true⟩)] mixed rfl rfl ⟨?_, ?_, ?_, ?_, ?_, ?_, ?_, ?_, ?_, ?_, ?_, ?_, ?_, ?_, trivial⟩ ?_
              · intro S hc hk hp
                refine o_faddr field27_1 type2 (by decide) rfl rfl guard_none (look_o rfl rfl) (fun _ => rfl) ?_
                exact d_end rfl rfl rfl
              · intro S hc hk hp
                refine o_oloadi 2 rfl type2 T_law34_room_foc1 rfl guard_none (look_d rfl rfl (pr hp 0 rfl rfl)) (fun _ => rfl) ?_
                exact d_end rfl rfl rfl
              · intro S hc hk hp
                refine o_move rfl rfl guard_none (look_o rfl rfl) (fun _ => rfl) ?_
                exact d_end rfl rfl rfl
              · intro S hc hk hp
                refine o_move rfl rfl guard_none (look_o rfl rfl) (fun _ => rfl) ?_
                exact d_end rfl rfl rfl
              · intro S hc hk hp
                refine o_move rfl rfl guard_none (look_o rfl rfl) (fun _ => rfl) ?_
                exact d_end rfl rfl rfl
              · intro S hc hk hp
                refine o_from (bind_eqO h_z25) ?_
                refine o_vaddr 1 (.inl rfl) Try.underlying44 type2 rfl (look_d rfl rfl (pr hp 0 rfl rfl)) (look_d rfl rfl (pr hp 1 rfl rfl)) rfl rfl (o_eqO ?_)
                exact d_end rfl rfl rfl
              · intro S hc hk hp
                refine o_vload (j := z25) (u := (z17.getD z25 0)) 1 (.inl rfl) type2 rfl guard_none (fun _ => at_get rfl h_z25) (look_d rfl rfl (pr hp 0 rfl rfl)) (fun _ => rfl) ?_
                exact d_end rfl rfl rfl
              · intro S hc hk hp
                refine o_sub rfl rfl guard_none (look_d rfl rfl (pr hp 0 rfl rfl)) (look_d rfl rfl (pr hp 1 rfl rfl)) (fun _ => rfl) (fun _ => rfl) ?_
                exact d_end rfl rfl rfl
              · intro S hc hk hp
                refine o_from (bind_eqO h_z26) ?_
                refine o_call rfl rfl rfl callable18 (looks_cons (look_d rfl rfl (pr hp 0 rfl rfl)) (fun _ => rfl) (looks_cons (look_d rfl rfl (pr hp 1 rfl rfl)) (fun _ => rfl) (looks_nil))) (ref01_Mul_ok _ _) (o_eqO ?_)
                exact d_end rfl rfl rfl
              · intro S hc hk hp
                refine o_move rfl rfl guard_none (look_d rfl rfl (pr hp 0 rfl rfl)) (fun _ => rfl) ?_
                exact d_end rfl rfl rfl
              · intro S hc hk hp
                refine o_fst rfl rfl guard_none (look_d rfl rfl (pr hp 0 rfl rfl)) (fun _ => rfl) ?_
                exact d_end rfl rfl rfl
              · intro S hc hk hp
                refine o_snd rfl rfl guard_none (look_d rfl rfl (pr hp 0 rfl rfl)) (fun _ => rfl) ?_
                exact d_end rfl rfl rfl
              · intro S hc hk hp
                refine o_assign rfl rfl guard_none (look_d rfl rfl (pr hp 0 rfl rfl)) (fun _ => rfl) ?_
                exact d_end rfl rfl rfl
              · intro S hc hk hp
                refine o_assign rfl rfl guard_none (look_d rfl rfl (pr hp 0 rfl rfl)) (fun _ => rfl) ?_
                exact d_end rfl rfl rfl
              refine den_seq ?_
              refine den_region rfl ?_
              refine o_faddr field27_0 type2 (by decide) rfl rfl guard_none (look_tmp rfl) (fun _ => rfl) ?_
              refine o_oloadi 2 rfl type2 T_law34_room_foc0 rfl guard_none (look_tmp rfl) (fun _ => rfl) ?_
              refine o_move rfl rfl guard_none (look_tmp rfl) (fun _ => rfl) ?_
              refine o_call rfl rfl rfl callable15 (looks_cons (look_tmp rfl) (fun _ => rfl) (looks_cons (look_tmp rfl) (fun _ => rfl) (looks_nil))) (ref01_Add_ok _ _) (fun z27 => ?_)
              refine o_move rfl rfl guard_none (look_tmp rfl) (fun _ => rfl) ?_
              refine o_fst rfl rfl guard_none (look_tmp rfl) (fun _ => rfl) ?_
              refine o_snd rfl rfl guard_none (look_tmp rfl) (fun _ => rfl) ?_
              refine o_assign rfl rfl guard_none (look_tmp rfl) (fun _ => rfl) ?_
              refine o_assign rfl rfl guard_none (look_tmp rfl) (fun _ => rfl) ?_
              refine o_end ?_
              refine den_seq ?_
              refine den_region rfl ?_
              refine o_move rfl rfl guard_none (look_tmp rfl) (fun _ => rfl) ?_
              refine o_move rfl rfl guard_none (look_tmp rfl) (fun _ => rfl) ?_
              refine o_move rfl rfl (guard_some rfl rfl rfl) (look_tmp rfl) (fun _ => rfl) ?_
              refine o_pick rfl rfl guard_none (look_tmp rfl) (look_tmp rfl) look_bool (fun _ => rfl) (fun h1 h2 => pick_t ((fun _ => rfl) h1) h2) (fun _ _ => rfl) ?_
              refine o_move rfl rfl guard_none (look_tmp rfl) (fun _ => rfl) ?_
              refine o_move rfl rfl (guard_some rfl rfl rfl) (look_tmp rfl) (fun _ => rfl) ?_
              refine o_move rfl rfl (guard_some rfl rfl rfl) (look_tmp rfl) (fun _ => rfl) ?_
              refine o_gtr rfl rfl (guard_some rfl rfl rfl) (look_tmp rfl) (look_tmp rfl) (fun h => h) (fun h => h) ?_
              refine o_pick rfl rfl guard_none (look_tmp rfl) (look_tmp rfl) look_bool (fun _ => rfl) (fun h1 h2 => pick_t ((fun _ => rfl) h1) h2) (fun _ _ => rfl) ?_
              refine o_end ?_
              refine den_cond (look_tmp rfl) ?_ ?_
              · refine den_seq ?_
                refine den_region rfl ?_
                refine o_assign rfl rfl guard_none look_bool (fun _ => rfl) ?_
                refine o_end ?_
                refine den_code_ret ?_
                refine dene_ret ?_
                refine dene_loop (by simp) ?_
                refine dene_ret ?_
                refine dene_both (by simp) ?_
                refine dene_ret ?_
                refine dene_loopA (by simp) ?_
                refine dene_ret ?_
                refine dene_both (by simp) ?_
                refine dene_ret ?_
                exact dene_res (res1 rfl (rv_tmp rfl))
              · refine den_skip ?_
                refine den_blkend ?_
                refine den_region rfl ?_
                refine o_move rfl rfl guard_none (look_tmp rfl) (fun _ => rfl) ?_
                refine o_sub rfl rfl guard_none (look_tmp rfl) (look_int rfl) (fun _ => rfl) (fun _ => rfl) ?_
                refine o_assign rfl rfl guard_none (look_tmp rfl) (fun _ => rfl) ?_
                refine o_end ?_
                refine den_next ((sub_env (sube_cons rfl (sube_cons rfl (sube_cons rfl (sube_cons rfl (sube_cons rfl (sube_cons rfl (sube_cons rfl (sube_cons rfl (sube_cons rfl (sube_nil))))))))))))
            · refine den_code_exit ?_
              refine dene_out rfl ?_
              refine dene_loop (by simp) ?_
              refine dene_to rfl ?_
              refine den_endl ((sub_env (sube_cons rfl (sube_cons rfl (sube_cons rfl (sube_cons rfl (sube_cons rfl (sube_cons rfl (sube_cons rfl (sube_nil))))))))))
          refine den_blkend ?_
          refine den_region rfl ?_
          refine o_move rfl rfl guard_none (look_tmp rfl) (fun _ => rfl) ?_
          refine o_add rfl rfl guard_none (look_tmp rfl) (look_int rfl) (fun _ => rfl) (fun _ => rfl) ?_
          refine o_assign rfl rfl guard_none (look_tmp rfl) (fun _ => rfl) ?_
          refine o_end ?_
          refine den_nextA (z18, z20) ((Sub.trans (sub_pick [2, 3, 1, 0] rfl rfl) (sub_env (sube_cons rfl (sube_cons rfl (sube_cons rfl (sube_cons rfl (sube_cons rfl (sube_cons rfl (sube_cons rfl (sube_nil)))))))))))
      · refine den_code_exit ?_
        refine dene_out rfl ?_
        refine dene_loopA (by simp) ?_
        refine dene_to rfl ?_
        refine den_endl ((Sub.trans (sub_pick [] rfl rfl) (sub_env (sube_nil))))
    refine den_seq ?_
    refine den_region rfl ?_
    refine o_assign rfl rfl guard_none look_bool (fun _ => rfl) ?_
    refine o_end ?_
    refine den_code_ret ?_
    exact dene_res (res1 rfl (rv_tmp rfl))

theorem deque_Deque_in_ok (blk0 : Nat) (off0 : Nat) (val0_0 : Value) (d_0 : T_deque_Deque) : FunOkI Try.prog 34 [⟨.addr, (blk0, off0), true⟩] [.rvec val0_0 (T_deque_Cell_rep) d_0.cells, .obj false blk0 off0 (.dat (T_deque_Deque_repo val0_0)) d_0] (deque_Deque_in d_0) (Rep.val1) (fun (α : Unit) (y : (Nat × Nat)) => vsub val0_0 (T_deque_Cell_rep).size y.1 y.2) (fun α y => []) := by
  refine fun_okI Try.func34 rfl Try.ntmps34 rfl (all_cons rfl all_nil) (fun w0 ok0 M => ?_)
  refine den_seq ?_
  refine den_region rfl ?_
  refine o_assign rfl rfl guard_none look_nil1 (fun _ => rfl) ?_
  refine o_end ?_
  refine den_seq ?_
  refine den_seq ?_
  refine den_region rfl ?_
  refine o_move rfl rfl guard_none (look_tmp rfl) (fun _ => rfl) ?_
  refine o_peql Try.underlying45 rfl rfl guard_none (look_tmp rfl) (fun _ => rfl) ?_
  refine o_end ?_
  refine den_condf (look_tmp rfl) ?_
  refine den_skip ?_
  refine den_seq ?_
  refine den_open (fun z1 h_z1 => ?_)
  refine den_draw [(5, ⟨Rep.addr, (blk0, off0), true⟩), (6, ⟨Rep.addr, (blk0, off0), true⟩), (7, ⟨Rep.addr, (blk0, off0), true⟩), (8, ⟨Rep.val1, val0_0, true⟩), (9, ⟨Rep.addr, (blk0, off0), true⟩), (10, ⟨Rep.addr, (blk0, off0), true⟩), (11, ⟨Rep.addr, (blk0, off0 + 1), true⟩), (12, ⟨Rep.int .i64, d_0.gone, true⟩), (13, ⟨Rep.val1, (vsub val0_0 (T_deque_Cell_rep).size z1.1 z1.2), true⟩), (2, ⟨Rep.val1, (vsub val0_0 (T_deque_Cell_rep).size z1.1 z1.2), true⟩)] mixed rfl rfl ⟨?_, ?_, ?_, ?_, ?_, ?_, ?_, ?_, ?_, ?_, trivial⟩ ?_
  · intro S hc hk hp
    refine o_move rfl rfl guard_none (look_o rfl rfl) (fun _ => rfl) ?_
    exact d_end rfl rfl rfl
  · intro S hc hk hp
    refine o_nilc rfl rfl guard_none (look_d rfl rfl (pr hp 0 rfl rfl)) (fun _ => rfl) ?_
    exact d_end rfl rfl rfl
  · intro S hc hk hp
    refine o_faddr field56_0 type54 (by decide) rfl rfl guard_none (look_d rfl rfl (pr hp 0 rfl rfl)) (fun _ => rfl) ?_
    exact d_end rfl rfl rfl
  · intro S hc hk hp
    refine o_oloadi 1 rfl (typeisv54 val0_0) (T_deque_Deque_foco0 val0_0) rfl guard_none (look_d rfl rfl (pr hp 0 rfl rfl)) (fun _ => rfl) ?_
    refine o_asv ?_
    exact d_end rfl rfl rfl
  · intro S hc hk hp
    refine o_move rfl rfl guard_none (look_o rfl rfl) (fun _ => rfl) ?_
    exact d_end rfl rfl rfl
  · intro S hc hk hp
    refine o_nilc rfl rfl guard_none (look_d rfl rfl (pr hp 0 rfl rfl)) (fun _ => rfl) ?_
    exact d_end rfl rfl rfl
  · intro S hc hk hp
    refine o_faddr field56_1 type3 (by decide) rfl rfl guard_none (look_d rfl rfl (pr hp 0 rfl rfl)) (fun _ => rfl) ?_
    exact d_end rfl rfl rfl
  · intro S hc hk hp
    refine o_oloadi 1 rfl type3 (T_deque_Deque_foco1 val0_0) rfl guard_none (look_d rfl rfl (pr hp 0 rfl rfl)) (fun _ => rfl) ?_
    exact d_end rfl rfl rfl
  · intro S hc hk hp
    refine o_from (bind_eqO h_z1) ?_
    refine o_viewd (l := d_0.gone) (r := (d_0.cells.length)) 0 (.inr rfl) Try.underlying54 type60 rfl (look_d rfl rfl (pr hp 0 rfl rfl)) rfl (bnd_some (look_d rfl rfl (pr hp 1 rfl rfl)) (fun _ => rfl)) bnd_none (o_eqO ?_)
    exact d_end rfl rfl rfl
  · intro S hc hk hp
    refine o_assign rfl rfl guard_none (look_d rfl rfl (pr hp 0 rfl rfl)) (fun _ => rfl) ?_
    exact d_end rfl rfl rfl
  refine den_code_ret ?_
  exact dene_resI () (res1 rfl (rv_tmp rfl)) (fun _ _ _ k => ato_pick [] rfl rfl k)

theorem deque_Deque_Last_ok (blk0 : Nat) (off0 : Nat) (val0_0 : Value) (d_0 : T_deque_Deque) : FunOkI Try.prog 33 [⟨.addr, (blk0, off0), true⟩] [.rvec val0_0 (T_deque_Cell_rep) d_0.cells, .obj false blk0 off0 (.dat (T_deque_Deque_repo val0_0)) d_0] (deque_Deque_Last d_0) (Rep.pair (T_deque_Cell_rep) (Rep.bool)) (fun (α : Unit) (y : (T_deque_Cell × Bool)) => (y.1, y.2)) (fun α y => []) := by
  refine fun_okI Try.func33 rfl Try.ntmps33 rfl (all_cons rfl all_nil) (fun w0 ok0 M => ?_)
  refine den_seq ?_
  refine den_region rfl ?_
  refine o_alloc zero60 rfl rfl (fun z1 => ?_)
  refine o_assign rfl rfl guard_none look_bool (fun _ => rfl) ?_
  refine o_end ?_
  refine den_seq ?_
  refine den_region rfl ?_
  refine o_move rfl rfl guard_none (look_tmp rfl) (fun _ => rfl) ?_
  refine o_weak (H' := [] ++ ([.rvec val0_0 (T_deque_Cell_rep) d_0.cells, .obj false blk0 off0 (.dat (T_deque_Deque_repo val0_0)) d_0] ++ [.obj true z1 0 (.dat T_deque_Cell_rep) T_deque_Cell_zero])) (sub_pick [1, 2, 0] rfl rfl) ?_
  refine o_callU rfl rfl rfl rfl rfl callable34 (looks_cons (look_tmp rfl) (fun _ => rfl) (looks_nil)) (.rvec (.cons .nil)) (deque_Deque_in_ok _ _ _ d_0) (fun _ _ => wr_n) (fun z3α z2 => ?_)
  refine o_weak (H' := [.rvec val0_0 (T_deque_Cell_rep) d_0.cells, .obj false blk0 off0 (.dat (T_deque_Deque_repo val0_0)) d_0, .obj true z1 0 (.dat T_deque_Cell_rep) T_deque_Cell_zero]) (sub_pick [0, 1, 2] rfl rfl) ?_
  refine o_chk (fun hb_z2_0 => ?_)
  refine o_assign rfl rfl guard_none (look_tmp rfl) (fun _ => rfl) ?_
  refine o_end ?_
  refine den_seq ?_
  refine den_seq ?_
  refine den_region rfl ?_
  refine o_move rfl rfl guard_none (look_tmp rfl) (fun _ => rfl) ?_
  refine o_viewlen (p := (z2.1, z2.2)) 0 (.inr rfl) hb_z2_0 Try.underlying54 rfl guard_none (look_tmp rfl) (fun _ => rfl) ?_
  refine o_eql rfl rfl guard_none (look_tmp rfl) (look_int rfl) (fun _ => rfl) (fun _ => rfl) ?_
  refine o_end ?_
  refine den_cond (look_tmp rfl) ?_ ?_
  · refine den_seq ?_
    refine den_region rfl ?_
    refine o_build (R := T_deque_Cell_rep0) (f := T_deque_Cell_tup) (y := (⟨0, 0⟩ : T_deque_Cell)) shape60 rfl rfl rfl rfl guard_none (bld_zero (z_int rfl) (bld_zero (z_int rfl) (bld_nil))) ?_
    refine o_weak (H' := [.obj true z1 0 (.dat T_deque_Cell_rep) T_deque_Cell_zero, .rvec val0_0 (T_deque_Cell_rep) d_0.cells, .obj false blk0 off0 (.dat (T_deque_Deque_repo val0_0)) d_0]) (sub_pick [2, 0, 1] rfl rfl) ?_
    refine o_ostore type60 foc_self guard_none (look_tmp rfl) (fun _ => rfl) (look_tmp rfl) (fun _ => rfl) ?_
    refine o_assign rfl rfl guard_none look_bool (fun _ => rfl) ?_
    refine o_end ?_
    refine den_code_ret ?_
    refine dene_ret ?_
    exact dene_resI () (res2 rfl (rv_cell 0 type60 rfl rfl) (rv_tmp rfl)) (fun _ _ _ k => ato_pick [] rfl rfl k)
  · refine den_skip ?_
    refine den_seq ?_
    refine den_region rfl ?_
    refine o_move rfl rfl guard_none (look_tmp rfl) (fun _ => rfl) ?_
    refine o_move rfl rfl guard_none (look_tmp rfl) (fun _ => rfl) ?_
    refine o_viewlen (p := (z2.1, z2.2)) 0 (.inr rfl) hb_z2_0 Try.underlying54 rfl guard_none (look_tmp rfl) (fun _ => rfl) ?_
    refine o_sub rfl rfl guard_none (look_tmp rfl) (look_int rfl) (fun _ => rfl) (fun _ => rfl) ?_
    refine o_viewaddr (p := (z2.1, z2.2)) 0 (.inr rfl) hb_z2_0 Try.underlying54 type60 rfl (look_tmp rfl) (look_tmp rfl) rfl rfl (fun z4 h_z4 => ?_)
    refine o_vload (j := (z2.1 + z4)) (u := (d_0.cells.getD (z2.1 + z4) T_deque_Cell_zero)) 0 (.inr rfl) type60 rfl guard_none (fun _ => view_get rfl hb_z2_0 h_z4) (look_tmp rfl) (fun _ => rfl) ?_
    refine o_weak (H' := [.obj true z1 0 (.dat T_deque_Cell_rep) T_deque_Cell_zero, .rvec val0_0 (T_deque_Cell_rep) d_0.cells, .obj false blk0 off0 (.dat (T_deque_Deque_repo val0_0)) d_0]) (sub_pick [2, 0, 1] rfl rfl) ?_
    refine o_ostore type60 foc_self guard_none (look_tmp rfl) (fun _ => rfl) (look_tmp rfl) (fun _ => rfl) ?_
    refine o_assign rfl rfl guard_none look_bool (fun _ => rfl) ?_
    refine o_end ?_
    refine den_code_ret ?_
    exact dene_resI () (res2 rfl (rv_cell 0 type60 rfl rfl) (rv_tmp rfl)) (fun _ _ _ k => ato_pick [] rfl rfl k)

theorem deque_Deque_Push_ok (blk0 : Nat) (off0 : Nat) (val0_0 : Value) (d_0 : T_deque_Deque) (a_1 : Int) : FunOkI Try.prog 21 [⟨.addr, (blk0, off0), true⟩, ⟨Rep.int .i64, a_1, true⟩] [.vec val0_0 (T_deque_Cell_rep) d_0.cells, .obj true blk0 off0 (.dat (T_deque_Deque_repo val0_0)) d_0] (deque_Deque_Push d_0 a_1) (Rep.bool) (fun (α : Value) (y : (Bool × T_deque_Deque)) => y.1) (fun α y => [.vec α (T_deque_Cell_rep) y.2.cells, .obj true blk0 off0 (.dat (T_deque_Deque_repo α)) y.2]) := by
  refine fun_okI Try.func21 rfl Try.ntmps21 rfl (all_cons rfl (all_cons rfl all_nil)) (fun w0 ok0 M => ?_)
  refine den_seq ?_
  refine den_region rfl ?_
  refine o_assign rfl rfl guard_none look_bool (fun _ => rfl) ?_
  refine o_end ?_
  refine den_seq ?_
  refine den_region rfl ?_
  refine o_move rfl rfl guard_none (look_tmp rfl) (fun _ => rfl) ?_
  refine o_weak (H' := [] ++ ([.vec val0_0 (T_deque_Cell_rep) d_0.cells, .obj true blk0 off0 (.dat (T_deque_Deque_repo val0_0)) d_0] ++ [])) (sub_pick [0, 1] rfl rfl) ?_
  refine o_callU rfl rfl rfl rfl rfl callable33 (looks_cons (look_tmp rfl) (fun _ => rfl) (looks_nil)) (.vec (.cons .nil)) (deque_Deque_Last_ok _ _ _ d_0) (fun _ _ => wr_n) (fun z2α z1 => ?_)
  refine o_weak (H' := [.vec val0_0 (T_deque_Cell_rep) d_0.cells, .obj true blk0 off0 (.dat (T_deque_Deque_repo val0_0)) d_0]) (sub_pick [0, 1] rfl rfl) ?_
  refine o_move rfl rfl guard_none (look_tmp rfl) (fun _ => rfl) ?_
  refine o_fst rfl rfl guard_none (look_tmp rfl) (fun _ => rfl) ?_
  refine o_snd rfl rfl guard_none (look_tmp rfl) (fun _ => rfl) ?_
  refine o_alloc zero60 rfl rfl (fun z3 => ?_)
  refine o_ostore type60 foc_self guard_none (look_tmp rfl) (fun _ => rfl) (look_tmp rfl) (fun _ => rfl) ?_
  refine o_assign rfl rfl guard_none (look_tmp rfl) (fun _ => rfl) ?_
  refine o_end ?_
  refine den_seq ?_
  refine den_seq ?_
  refine den_region rfl ?_
  refine o_move rfl rfl guard_none (look_tmp rfl) (fun _ => rfl) ?_
  refine o_peql Try.underlying45 rfl rfl guard_none (look_tmp rfl) (fun _ => rfl) ?_
  refine o_move rfl rfl guard_none (look_tmp rfl) (fun _ => rfl) ?_
  refine o_move rfl rfl (guard_some rfl rfl rfl) (look_tmp rfl) (fun _ => rfl) ?_
  refine o_move rfl rfl (guard_some rfl rfl rfl) (look_tmp rfl) (fun h => h) ?_
  refine o_move rfl rfl (guard_some rfl rfl rfl) (look_tmp rfl) (fun _ => rfl) ?_
  refine o_faddr field60_0 type2 (by decide) rfl rfl (guard_some rfl rfl rfl) (look_tmp rfl) (fun _ => rfl) ?_
  refine o_oloadi 0 rfl type2 T_deque_Cell_foc0 rfl (guard_some rfl rfl rfl) (look_tmp rfl) (fun h => h) ?_
  refine o_lss rfl rfl (guard_some rfl rfl rfl) (look_tmp rfl) (look_tmp rfl) (fun h => h) (fun h => h) ?_
  refine o_pick rfl rfl (guard_some rfl rfl rfl) (look_tmp rfl) (look_tmp rfl) look_bool (fun h => h) (fun h1 h2 => pick_t ((fun h => h) h1) h2) (fun _ _ => rfl) ?_
  refine o_pick rfl rfl guard_none (look_tmp rfl) look_bool (look_tmp rfl) (fun _ => rfl) (fun _ _ => rfl) (fun h1 h2 => pick_f ((fun _ => rfl) h1) h2) ?_
  refine o_end ?_
  refine den_cond (look_tmp rfl) ?_ ?_
  · refine den_seq ?_
    refine den_region rfl ?_
    refine o_assign rfl rfl guard_none look_bool (fun _ => rfl) ?_
    refine o_end ?_
    refine den_code_ret ?_
    refine dene_ret ?_
    exact dene_resI val0_0 (res1 rfl (rv_tmp rfl)) (fun _ _ _ k => ato_pick [1, 2] rfl rfl k)
  · refine den_skip ?_
    refine den_seq ?_
    refine den_seq ?_
    refine den_region rfl ?_
    refine o_move rfl rfl guard_none (look_tmp rfl) (fun _ => rfl) ?_
    refine o_not rfl rfl guard_none (look_tmp rfl) (fun _ => rfl) ?_
    refine o_move rfl rfl guard_none (look_tmp rfl) (fun _ => rfl) ?_
    refine o_move rfl rfl (guard_some rfl rfl rfl) (look_tmp rfl) (fun _ => rfl) ?_
    refine o_faddr field60_0 type2 (by decide) rfl rfl (guard_some rfl rfl rfl) (look_tmp rfl) (fun _ => rfl) ?_
    refine o_oloadi 0 rfl type2 T_deque_Cell_foc0 rfl (guard_some rfl rfl rfl) (look_tmp rfl) (fun h => h) ?_
    refine o_gtr rfl rfl (guard_some rfl rfl rfl) (look_tmp rfl) (look_tmp rfl) (fun h => h) (fun h => h) ?_
    refine o_pick rfl rfl guard_none (look_tmp rfl) look_bool (look_tmp rfl) (fun _ => rfl) (fun _ _ => rfl) (fun h1 h2 => pick_f ((fun _ => rfl) h1) h2) ?_
    refine o_end ?_
    refine den_cond (look_tmp rfl) ?_ ?_
    · refine den_seq ?_
      refine den_region rfl ?_
      refine o_move rfl rfl guard_none (look_tmp rfl) (fun _ => rfl) ?_
      refine o_move rfl rfl guard_none (look_tmp rfl) (fun _ => rfl) ?_
      refine o_nilc rfl rfl guard_none (look_tmp rfl) (fun _ => rfl) ?_
      refine o_faddr field56_0 type54 (by decide) rfl rfl guard_none (look_tmp rfl) (fun _ => rfl) ?_
      refine o_oloadi 2 rfl (typeisv54 val0_0) (T_deque_Deque_foco0 val0_0) rfl guard_none (look_tmp rfl) (fun _ => rfl) ?_
      refine o_asv ?_
      refine o_move rfl rfl guard_none (look_tmp rfl) (fun _ => rfl) ?_
      refine o_build (R := T_deque_Cell_rep0) (f := T_deque_Cell_tup) (y := (⟨a_1, 1⟩ : T_deque_Cell)) shape60 rfl rfl rfl rfl guard_none (bld_part rfl rfl (look_tmp rfl) (fun _ => rfl) (bld_part rfl rfl (look_int rfl) (fun _ => rfl) (bld_nil))) ?_
      refine o_bslice Try.underlying54 (info_i info60) (info_z info60) type60 rfl rfl rfl rfl rfl rfl guard_none (looksL_cons (look_tmp rfl) (fun _ => rfl) (looksL_nil)) ?_
      refine o_weak (H' := [.vec val0_0 (T_deque_Cell_rep) d_0.cells, .obj true z3 0 (.dat T_deque_Cell_rep) z1.1, .obj true blk0 off0 (.dat (T_deque_Deque_repo val0_0)) d_0]) (sub_pick [1, 0, 2] rfl rfl) ?_
      refine o_append Try.underlying54 (info_i info60) (info_z info60) (info_all info60).2.1 rfl (info_all info60).2.2 rfl (look_tmp rfl) rfl (feeds_slice Try.underlying54 rfl (look_tmp rfl) rfl) (fun z5 z4 => ?_)
      refine o_nilc rfl rfl guard_none (look_tmp rfl) (fun _ => rfl) ?_
      refine o_faddr field56_0 type54 (by decide) rfl rfl guard_none (look_tmp rfl) (fun _ => rfl) ?_
      refine o_weak (H' := [.obj true blk0 off0 (.dat (T_deque_Deque_repo val0_0)) d_0, .vec z5 (T_deque_Cell_rep) z4, .obj true z3 0 (.dat T_deque_Cell_rep) z1.1]) (sub_pick [2, 0, 1] rfl rfl) ?_
      refine o_wstore (typeisv54 z5) (T_deque_Deque_focw0 val0_0 z5) (look_tmp rfl) rfl (look_isvv 1 (.inl rfl) (look_tmp rfl)) rfl ?_
      refine o_end ?_
      refine den_region rfl ?_
      refine o_move rfl rfl guard_none (look_tmp rfl) (fun _ => rfl) ?_
      refine o_nilc rfl rfl guard_none (look_tmp rfl) (fun _ => rfl) ?_
      refine o_faddr field56_2 type2 (by decide) rfl rfl guard_none (look_tmp rfl) (fun _ => rfl) ?_
      refine o_oloadi 0 rfl type2 (T_deque_Deque_foco2 z5) rfl guard_none (look_tmp rfl) (fun _ => rfl) ?_
      refine o_add rfl rfl guard_none (look_tmp rfl) (look_int rfl) (fun _ => rfl) (fun _ => rfl) ?_
      refine o_nilc rfl rfl guard_none (look_tmp rfl) (fun _ => rfl) ?_
      refine o_faddr field56_2 type2 (by decide) rfl rfl guard_none (look_tmp rfl) (fun _ => rfl) ?_
      refine o_ostore type2 (T_deque_Deque_foco2 z5) guard_none (look_tmp rfl) (fun _ => rfl) (look_tmp rfl) (fun _ => rfl) ?_
      refine o_end ?_
      refine den_seq ?_
      refine den_region rfl ?_
      refine o_assign rfl rfl guard_none look_bool (fun _ => rfl) ?_
      refine o_end ?_
      refine den_code_ret ?_
      refine dene_weak (H' := [.obj true blk0 off0 (.dat (T_deque_Deque_repo z5)) ({ d_0 with sum := IntKind.i64.wrap (d_0.sum + 1) }), .vec z5 (T_deque_Cell_rep) z4, .obj true z3 0 (.dat T_deque_Cell_rep) z1.1]) (sub_pick [0, 1, 2] rfl rfl) ?_
      refine dene_weak (sub_redat ({ ({ d_0 with sum := IntKind.i64.wrap (d_0.sum + 1) }) with cells := z4 }) (fun _ _ _ h => h)) ?_
      exact dene_resI z5 (res1 rfl (rv_tmp rfl)) (fun _ _ _ k => ato_pick [1, 0] rfl rfl k)
    · refine den_seq ?_
      refine den_region rfl ?_
      refine o_faddr field60_1 type3 (by decide) rfl rfl guard_none (look_tmp rfl) (fun _ => rfl) ?_
      refine o_oloadi 0 rfl type3 T_deque_Cell_foc1 rfl guard_none (look_tmp rfl) (fun _ => rfl) ?_
      refine o_lss rfl rfl guard_none (look_tmp rfl) (look_int rfl) (fun _ => rfl) (fun _ => rfl) ?_
      refine o_end ?_
      refine den_cond (look_tmp rfl) ?_ ?_
      · refine den_seq ?_
        refine den_open (fun z6 h_z6 => ?_)
        refine den_open (fun z7 h_z7 => ?_)
        have hB : ∀ (S : Nat → Bool) (b16 : Bool), S 16 = b16 → ((fun S => [.obj true z3 0 (.dat T_deque_Cell_rep) z1.1, .vec val0_0 (T_deque_Cell_rep) (cond (S 16) (d_0.cells.set z7 ({ (d_0.cells.getD z7 T_deque_Cell_zero) with N := IntKind.i64.wrap (((d_0.cells.getD z6 T_deque_Cell_zero).N) + 1) })) d_0.cells), .obj true blk0 off0 (.dat (T_deque_Deque_repo val0_0)) d_0] : (Nat → Bool) → List Go.Eng.Item) S) = ([.obj true z3 0 (.dat T_deque_Cell_rep) z1.1, .vec val0_0 (T_deque_Cell_rep) (cond b16 (d_0.cells.set z7 ({ (d_0.cells.getD z7 T_deque_Cell_zero) with N := IntKind.i64.wrap (((d_0.cells.getD z6 T_deque_Cell_zero).N) + 1) })) d_0.cells), .obj true blk0 off0 (.dat (T_deque_Deque_repo val0_0)) d_0] : List Go.Eng.Item) := fun S b16 h16 => by subst h16; rfl
        refine den_drawH (H' := [.obj true z3 0 (.dat T_deque_Cell_rep) z1.1, .vec val0_0 (T_deque_Cell_rep) (d_0.cells.set z7 ({ (d_0.cells.getD z7 T_deque_Cell_zero) with N := IntKind.i64.wrap (((d_0.cells.getD z6 T_deque_Cell_zero).N) + 1) })), .obj true blk0 off0 (.dat (T_deque_Deque_repo val0_0)) d_0]) [(52, ⟨Rep.addr, (blk0, off0), true⟩), (53, ⟨Rep.addr, (blk0, off0), true⟩), (54, ⟨Rep.addr, (blk0, off0), true⟩), (55, ⟨Rep.val1, val0_0, true⟩), (56, ⟨Rep.addr, (blk0, off0), true⟩), (57, ⟨Rep.addr, (blk0, off0), true⟩), (58, ⟨Rep.addr, (blk0, off0), true⟩), (59, ⟨Rep.val1, val0_0, true⟩), (60, ⟨Rep.int .i64, (d_0.cells.length : Int), true⟩), (61, ⟨Rep.int .i64, IntKind.i64.wrap ((d_0.cells.length : Int) - 1), true⟩), (62, ⟨Rep.val1, (vptr val0_0 (T_deque_Cell_rep).size z6), true⟩), (63, ⟨Rep.val1, (vptrf val0_0 (T_deque_Cell_rep).size z6 1), true⟩), (64, ⟨Rep.int .i64, (d_0.cells.getD z6 T_deque_Cell_zero).N, true⟩), (65, ⟨Rep.int .i64, IntKind.i64.wrap (((d_0.cells.getD z6 T_deque_Cell_zero).N) + 1), true⟩), (66, ⟨Rep.val1, (vptr val0_0 (T_deque_Cell_rep).size z7), true⟩), (67, ⟨Rep.val1, (vptrf val0_0 (T_deque_Cell_rep).size z7 1), true⟩), (91, ⟨.any, (), false⟩)] (fun S => [.obj true z3 0 (.dat T_deque_Cell_rep) z1.1, .vec val0_0 (T_deque_Cell_rep) (cond (S 16) (d_0.cells.set z7 ({ (d_0.cells.getD z7 T_deque_Cell_zero) with N := IntKind.i64.wrap (((d_0.cells.getD z6 T_deque_Cell_zero).N) + 1) })) d_0.cells), .obj true blk0 off0 (.dat (T_deque_Deque_repo val0_0)) d_0]) mixed rfl rfl rfl (fun S hS => hB S true (hS 16 (by decide))) ⟨?_, ?_, ?_, ?_, ?_, ?_, ?_, ?_, ?_, ?_, ?_, ?_, ?_, ?_, ?_, ?_, ?_, trivial⟩ ?_
        · intro S hc hk hp
          refine o_move rfl rfl guard_none (look_o rfl rfl) (fun _ => rfl) ?_
          exact h_end rfl rfl rfl (hB (fun k => S k || Nat.beq k 0) (S 16) (or_ne rfl))
        · intro S hc hk hp
          refine o_nilc rfl rfl guard_none (look_d rfl rfl (pr hp 0 rfl rfl)) (fun _ => rfl) ?_
          exact h_end rfl rfl rfl (hB (fun k => S k || Nat.beq k 1) (S 16) (or_ne rfl))
        · intro S hc hk hp
          refine o_faddr field56_0 type54 (by decide) rfl rfl guard_none (look_d rfl rfl (pr hp 0 rfl rfl)) (fun _ => rfl) ?_
          exact h_end rfl rfl rfl (hB (fun k => S k || Nat.beq k 2) (S 16) (or_ne rfl))
        · intro S hc hk hp
          refine o_oloadi 2 rfl (typeisv54 val0_0) (T_deque_Deque_foco0 val0_0) rfl guard_none (look_d rfl rfl (pr hp 0 rfl rfl)) (fun _ => rfl) ?_
          refine o_asv ?_
          exact h_end rfl rfl rfl (hB (fun k => S k || Nat.beq k 3) (S 16) (or_ne rfl))
        · intro S hc hk hp
          refine o_move rfl rfl guard_none (look_o rfl rfl) (fun _ => rfl) ?_
          exact h_end rfl rfl rfl (hB (fun k => S k || Nat.beq k 4) (S 16) (or_ne rfl))
        · intro S hc hk hp
          refine o_nilc rfl rfl guard_none (look_d rfl rfl (pr hp 0 rfl rfl)) (fun _ => rfl) ?_
          exact h_end rfl rfl rfl (hB (fun k => S k || Nat.beq k 5) (S 16) (or_ne rfl))
        · intro S hc hk hp
          refine o_faddr field56_0 type54 (by decide) rfl rfl guard_none (look_d rfl rfl (pr hp 0 rfl rfl)) (fun _ => rfl) ?_
          exact h_end rfl rfl rfl (hB (fun k => S k || Nat.beq k 6) (S 16) (or_ne rfl))
        · intro S hc hk hp
          refine o_oloadi 2 rfl (typeisv54 val0_0) (T_deque_Deque_foco0 val0_0) rfl guard_none (look_d rfl rfl (pr hp 0 rfl rfl)) (fun _ => rfl) ?_
          refine o_asv ?_
          exact h_end rfl rfl rfl (hB (fun k => S k || Nat.beq k 7) (S 16) (or_ne rfl))
        · intro S hc hk hp
          have e16 : S 16 = false := (not_yet (j := 16) (q := 10) hc hk rfl rfl rfl rfl)
          refine eq_H (H' := [.obj true z3 0 (.dat T_deque_Cell_rep) z1.1, .vec val0_0 (T_deque_Cell_rep) d_0.cells, .obj true blk0 off0 (.dat (T_deque_Deque_repo val0_0)) d_0]) (hB S false e16) ?_
          refine o_vlen 1 (.inl rfl) Try.underlying54 rfl guard_none (look_d rfl rfl (pr hp 0 rfl rfl)) (fun _ => rfl) ?_
          refine o_weak (H' := [.obj true z3 0 (.dat T_deque_Cell_rep) z1.1, .vec val0_0 (T_deque_Cell_rep) d_0.cells, .obj true blk0 off0 (.dat (T_deque_Deque_repo val0_0)) d_0]) (sub_pick [0, 1, 2] rfl rfl) ?_
          exact h_end rfl rfl rfl (hB (fun k => S k || Nat.beq k 8) false (or_f e16 rfl))
        · intro S hc hk hp
          refine o_sub rfl rfl guard_none (look_d rfl rfl (pr hp 0 rfl rfl)) (look_int rfl) (fun _ => rfl) (fun _ => rfl) ?_
          exact h_end rfl rfl rfl (hB (fun k => S k || Nat.beq k 9) (S 16) (or_ne rfl))
        · intro S hc hk hp
          refine o_from (bind_eqO h_z6) ?_
          have e16 : S 16 = false := (not_yet (j := 16) (q := 12) hc hk rfl rfl rfl rfl)
          refine eq_H (H' := [.obj true z3 0 (.dat T_deque_Cell_rep) z1.1, .vec val0_0 (T_deque_Cell_rep) d_0.cells, .obj true blk0 off0 (.dat (T_deque_Deque_repo val0_0)) d_0]) (hB S false e16) ?_
          refine o_vaddr 1 (.inl rfl) Try.underlying54 type60 rfl (look_d rfl rfl (pr hp 0 rfl rfl)) (look_d rfl rfl (pr hp 1 rfl rfl)) rfl rfl (o_eqO ?_)
          refine o_weak (H' := [.obj true z3 0 (.dat T_deque_Cell_rep) z1.1, .vec val0_0 (T_deque_Cell_rep) d_0.cells, .obj true blk0 off0 (.dat (T_deque_Deque_repo val0_0)) d_0]) (sub_pick [0, 1, 2] rfl rfl) ?_
          exact h_end rfl rfl rfl (hB (fun k => S k || Nat.beq k 10) false (or_f e16 rfl))
        · intro S hc hk hp
          have e16 : S 16 = false := (not_yet (j := 16) (q := 13) hc hk rfl rfl rfl rfl)
          refine eq_H (H' := [.obj true z3 0 (.dat T_deque_Cell_rep) z1.1, .vec val0_0 (T_deque_Cell_rep) d_0.cells, .obj true blk0 off0 (.dat (T_deque_Deque_repo val0_0)) d_0]) (hB S false e16) ?_
          refine o_vfaddr (j := z6) (u := (d_0.cells.getD z6 T_deque_Cell_zero)) 1 (.inl rfl) field60_1 type3 (by decide) rfl guard_none (fun _ => at_get rfl h_z6) (look_d rfl rfl (pr hp 0 rfl rfl)) (fun _ => rfl) ?_
          refine o_weak (H' := [.obj true z3 0 (.dat T_deque_Cell_rep) z1.1, .vec val0_0 (T_deque_Cell_rep) d_0.cells, .obj true blk0 off0 (.dat (T_deque_Deque_repo val0_0)) d_0]) (sub_pick [0, 1, 2] rfl rfl) ?_
          exact h_end rfl rfl rfl (hB (fun k => S k || Nat.beq k 11) false (or_f e16 rfl))
        · intro S hc hk hp
          have e16 : S 16 = false := (not_yet (j := 16) (q := 14) hc hk rfl rfl rfl rfl)
          refine eq_H (H' := [.obj true z3 0 (.dat T_deque_Cell_rep) z1.1, .vec val0_0 (T_deque_Cell_rep) d_0.cells, .obj true blk0 off0 (.dat (T_deque_Deque_repo val0_0)) d_0]) (hB S false e16) ?_
          refine o_vloadf (j := z6) (u := (d_0.cells.getD z6 T_deque_Cell_zero)) 1 (.inl rfl) type3 T_deque_Cell_foc1 rfl guard_none (fun _ => at_get rfl h_z6) (look_d rfl rfl (pr hp 0 rfl rfl)) (fun _ => rfl) ?_
          refine o_weak (H' := [.obj true z3 0 (.dat T_deque_Cell_rep) z1.1, .vec val0_0 (T_deque_Cell_rep) d_0.cells, .obj true blk0 off0 (.dat (T_deque_Deque_repo val0_0)) d_0]) (sub_pick [0, 1, 2] rfl rfl) ?_
          exact h_end rfl rfl rfl (hB (fun k => S k || Nat.beq k 12) false (or_f e16 rfl))
        · intro S hc hk hp
          refine o_add rfl rfl guard_none (look_d rfl rfl (pr hp 0 rfl rfl)) (look_int rfl) (fun _ => rfl) (fun _ => rfl) ?_
          exact h_end rfl rfl rfl (hB (fun k => S k || Nat.beq k 13) (S 16) (or_ne rfl))
        · intro S hc hk hp
          refine o_from (bind_eqO h_z7) ?_
          have e16 : S 16 = false := (not_yet (j := 16) (q := 0) hc (not_yet (j := 15) (q := 0) hc hk rfl rfl rfl rfl) rfl rfl rfl rfl)
          refine eq_H (H' := [.obj true z3 0 (.dat T_deque_Cell_rep) z1.1, .vec val0_0 (T_deque_Cell_rep) d_0.cells, .obj true blk0 off0 (.dat (T_deque_Deque_repo val0_0)) d_0]) (hB S false e16) ?_
          refine o_vaddr 1 (.inl rfl) Try.underlying54 type60 rfl (look_d rfl rfl (pr hp 0 rfl rfl)) (look_d rfl rfl (pr hp 1 rfl rfl)) rfl rfl (o_eqO ?_)
          refine o_weak (H' := [.obj true z3 0 (.dat T_deque_Cell_rep) z1.1, .vec val0_0 (T_deque_Cell_rep) d_0.cells, .obj true blk0 off0 (.dat (T_deque_Deque_repo val0_0)) d_0]) (sub_pick [0, 1, 2] rfl rfl) ?_
          exact h_end rfl rfl rfl (hB (fun k => S k || Nat.beq k 14) false (or_f e16 rfl))
        · intro S hc hk hp
          have e16 : S 16 = false := (not_yet (j := 16) (q := 0) hc hk rfl rfl rfl rfl)
          refine eq_H (H' := [.obj true z3 0 (.dat T_deque_Cell_rep) z1.1, .vec val0_0 (T_deque_Cell_rep) d_0.cells, .obj true blk0 off0 (.dat (T_deque_Deque_repo val0_0)) d_0]) (hB S false e16) ?_
          refine o_vfaddr (j := z7) (u := (d_0.cells.getD z7 T_deque_Cell_zero)) 1 (.inl rfl) field60_1 type3 (by decide) rfl guard_none (fun _ => at_get rfl h_z7) (look_d rfl rfl (pr hp 0 rfl rfl)) (fun _ => rfl) ?_
          refine o_weak (H' := [.obj true z3 0 (.dat T_deque_Cell_rep) z1.1, .vec val0_0 (T_deque_Cell_rep) d_0.cells, .obj true blk0 off0 (.dat (T_deque_Deque_repo val0_0)) d_0]) (sub_pick [0, 1, 2] rfl rfl) ?_
          exact h_end rfl rfl rfl (hB (fun k => S k || Nat.beq k 15) false (or_f e16 rfl))
        · intro S hc hk hp
          refine eq_H (H' := [.obj true z3 0 (.dat T_deque_Cell_rep) z1.1, .vec val0_0 (T_deque_Cell_rep) d_0.cells, .obj true blk0 off0 (.dat (T_deque_Deque_repo val0_0)) d_0]) (hB S false hk) ?_
          refine o_weak (H' := [.vec val0_0 (T_deque_Cell_rep) d_0.cells, .obj true z3 0 (.dat T_deque_Cell_rep) z1.1, .obj true blk0 off0 (.dat (T_deque_Deque_repo val0_0)) d_0]) (sub_pick [1, 0, 2] rfl rfl) ?_
          refine o_astoref (j := z7) (u := (d_0.cells.getD z7 T_deque_Cell_zero)) rfl type3 T_deque_Cell_foc1 (look_d rfl rfl (pr hp 0 rfl rfl)) rfl (at_get rfl h_z7) (look_d rfl rfl (pr hp 1 rfl rfl)) rfl ?_
          refine o_weak (H' := [.obj true z3 0 (.dat T_deque_Cell_rep) z1.1, .vec val0_0 (T_deque_Cell_rep) (d_0.cells.set z7 ({ (d_0.cells.getD z7 T_deque_Cell_zero) with N := IntKind.i64.wrap (((d_0.cells.getD z6 T_deque_Cell_zero).N) + 1) })), .obj true blk0 off0 (.dat (T_deque_Deque_repo val0_0)) d_0]) (sub_pick [1, 0, 2] rfl rfl) ?_
          refine h_none (n := 75) (d := 91) rfl rfl ?_
          exact h_end rfl rfl rfl (hB (fun k => S k || Nat.beq k 16) true (or_i rfl))
        refine den_region rfl ?_
        refine o_move rfl rfl guard_none (look_tmp rfl) (fun _ => rfl) ?_
        refine o_nilc rfl rfl guard_none (look_tmp rfl) (fun _ => rfl) ?_
        refine o_faddr field56_2 type2 (by decide) rfl rfl guard_none (look_tmp rfl) (fun _ => rfl) ?_
        refine o_oloadi 2 rfl type2 (T_deque_Deque_foco2 val0_0) rfl guard_none (look_tmp rfl) (fun _ => rfl) ?_
        refine o_add rfl rfl guard_none (look_tmp rfl) (look_int rfl) (fun _ => rfl) (fun _ => rfl) ?_
        refine o_nilc rfl rfl guard_none (look_tmp rfl) (fun _ => rfl) ?_
        refine o_faddr field56_2 type2 (by decide) rfl rfl guard_none (look_tmp rfl) (fun _ => rfl) ?_
        refine o_weak (H' := [.obj true blk0 off0 (.dat (T_deque_Deque_repo val0_0)) d_0, .obj true z3 0 (.dat T_deque_Cell_rep) z1.1, .vec val0_0 (T_deque_Cell_rep) (d_0.cells.set z7 ({ (d_0.cells.getD z7 T_deque_Cell_zero) with N := IntKind.i64.wrap (((d_0.cells.getD z6 T_deque_Cell_zero).N) + 1) }))]) (sub_pick [2, 0, 1] rfl rfl) ?_
        refine o_ostore type2 (T_deque_Deque_foco2 val0_0) guard_none (look_tmp rfl) (fun _ => rfl) (look_tmp rfl) (fun _ => rfl) ?_
        refine o_end ?_
        refine den_seq ?_
        refine den_region rfl ?_
        refine o_assign rfl rfl guard_none look_bool (fun _ => rfl) ?_
        refine o_end ?_
        refine den_code_ret ?_
        refine dene_weak (H' := [.obj true blk0 off0 (.dat (T_deque_Deque_repo val0_0)) ({ d_0 with sum := IntKind.i64.wrap (d_0.sum + 1) }), .obj true z3 0 (.dat T_deque_Cell_rep) z1.1, .vec val0_0 (T_deque_Cell_rep) (d_0.cells.set z7 ({ (d_0.cells.getD z7 T_deque_Cell_zero) with N := IntKind.i64.wrap (((d_0.cells.getD z6 T_deque_Cell_zero).N) + 1) }))]) (sub_pick [0, 1, 2] rfl rfl) ?_
        refine dene_weak (sub_redat ({ ({ d_0 with sum := IntKind.i64.wrap (d_0.sum + 1) }) with cells := (d_0.cells.set z7 ({ (d_0.cells.getD z7 T_deque_Cell_zero) with N := IntKind.i64.wrap (((d_0.cells.getD z6 T_deque_Cell_zero).N) + 1) })) }) (fun _ _ _ h => h)) ?_
        exact dene_resI val0_0 (res1 rfl (rv_tmp rfl)) (fun _ _ _ k => ato_pick [2, 0] rfl rfl k)
      · refine den_skip ?_
        refine den_seq ?_
        refine den_region rfl ?_
        refine o_assign rfl rfl guard_none look_bool (fun _ => rfl) ?_
        refine o_end ?_
        refine den_code_ret ?_
        exact dene_resI val0_0 (res1 rfl (rv_tmp rfl)) (fun _ _ _ k => ato_pick [1, 2] rfl rfl k)

theorem deque_Deque_Len_ok (blk0 : Nat) (off0 : Nat) (val0_0 : Value) (d_0 : T_deque_Deque) : FunOkI Try.prog 31 [⟨.addr, (blk0, off0), true⟩] [.rvec val0_0 (T_deque_Cell_rep) d_0.cells, .obj false blk0 off0 (.dat (T_deque_Deque_repo val0_0)) d_0] (deque_Deque_Len d_0) (Rep.int .i64) (fun (α : Unit) (y : Int) => y) (fun α y => []) := by
  refine fun_okI Try.func31 rfl Try.ntmps31 rfl (all_cons rfl all_nil) (fun w0 ok0 M => ?_)
  refine den_seq ?_
  refine den_region rfl ?_
  refine o_assign rfl rfl guard_none (look_int rfl) (fun _ => rfl) ?_
  refine o_end ?_
  refine den_seq ?_
  refine den_region rfl ?_
  refine o_move rfl rfl guard_none (look_tmp rfl) (fun _ => rfl) ?_
  refine o_weak (H' := [] ++ ([.rvec val0_0 (T_deque_Cell_rep) d_0.cells, .obj false blk0 off0 (.dat (T_deque_Deque_repo val0_0)) d_0] ++ [])) (sub_pick [0, 1] rfl rfl) ?_
  refine o_callU rfl rfl rfl rfl rfl callable34 (looks_cons (look_tmp rfl) (fun _ => rfl) (looks_nil)) (.rvec (.cons .nil)) (deque_Deque_in_ok _ _ _ d_0) (fun _ _ => wr_n) (fun z2α z1 => ?_)
  refine o_weak (H' := [.rvec val0_0 (T_deque_Cell_rep) d_0.cells, .obj false blk0 off0 (.dat (T_deque_Deque_repo val0_0)) d_0]) (sub_pick [0, 1] rfl rfl) ?_
  refine o_chk (fun hb_z1_0 => ?_)
  refine o_viewlen (p := (z1.1, z1.2)) 0 (.inr rfl) hb_z1_0 Try.underlying54 rfl guard_none (look_tmp rfl) (fun _ => rfl) ?_
  refine o_assign rfl rfl guard_none (look_tmp rfl) (fun _ => rfl) ?_
  refine o_end ?_
  refine den_code_ret ?_
  exact dene_resI () (res1 rfl (rv_tmp rfl)) (fun _ _ _ k => ato_pick [] rfl rfl k)

theorem deque_Deque_Sum_ok (blk0 : Nat) (off0 : Nat) (val0_0 : Value) (d_0 : T_deque_Deque) : FunOkI Try.prog 32 [⟨.addr, (blk0, off0), true⟩] [.rvec val0_0 (T_deque_Cell_rep) d_0.cells, .obj false blk0 off0 (.dat (T_deque_Deque_repo val0_0)) d_0] (deque_Deque_Sum d_0) (Rep.int .i64) (fun (α : Unit) (y : Int) => y) (fun α y => []) := by
  refine fun_okI Try.func32 rfl Try.ntmps32 rfl (all_cons rfl all_nil) (fun w0 ok0 M => ?_)
  refine den_seq ?_
  refine den_region rfl ?_
  refine o_assign rfl rfl guard_none (look_int rfl) (fun _ => rfl) ?_
  refine o_end ?_
  refine den_seq ?_
  refine den_seq ?_
  refine den_region rfl ?_
  refine o_move rfl rfl guard_none (look_tmp rfl) (fun _ => rfl) ?_
  refine o_peql Try.underlying45 rfl rfl guard_none (look_tmp rfl) (fun _ => rfl) ?_
  refine o_end ?_
  refine den_condf (look_tmp rfl) ?_
  refine den_skip ?_
  refine den_seq ?_
  refine den_region rfl ?_
  refine o_move rfl rfl guard_none (look_tmp rfl) (fun _ => rfl) ?_
  refine o_nilc rfl rfl guard_none (look_tmp rfl) (fun _ => rfl) ?_
  refine o_faddr field56_2 type2 (by decide) rfl rfl guard_none (look_tmp rfl) (fun _ => rfl) ?_
  refine o_oloadi 1 rfl type2 (T_deque_Deque_foco2 val0_0) rfl guard_none (look_tmp rfl) (fun _ => rfl) ?_
  refine o_assign rfl rfl guard_none (look_tmp rfl) (fun _ => rfl) ?_
  refine o_end ?_
  refine den_code_ret ?_
  exact dene_resI () (res1 rfl (rv_tmp rfl)) (fun _ _ _ k => ato_pick [] rfl rfl k)

theorem law15_alive_ok   : FunOk Try.prog 19 [] (law15_alive) (Rep.bool) := by
  refine fun_ok Try.func19 rfl Try.ntmps19 rfl all_nil (fun w0 ok0 => ?_)
  refine den_seq ?_
  refine den_region rfl ?_
  refine o_assign rfl rfl guard_none look_bool (fun _ => rfl) ?_
  refine o_end ?_
  refine den_seq ?_
  refine den_region rfl ?_
  refine o_weak (sub_nilvec (R := T_deque_Cell_rep) rfl) ?_
  refine o_build (R := T_deque_Deque_repo0 (Value.slice none 0 0)) (f := T_deque_Deque_tupo) (y := (⟨[], 0, 0⟩ : T_deque_Deque)) shape56 rfl rfl rfl rfl guard_none (bld_zero (z_isv rfl) (bld_zero (z_int rfl) (bld_zero (z_int rfl) (bld_nil)))) ?_
  refine o_box rfl rfl (look_tmp rfl) rfl (fun z1 => ?_)
  refine o_assign rfl rfl guard_none (look_tmp rfl) (fun _ => rfl) ?_
  refine o_end ?_
  refine den_seq ?_
  refine den_region rfl ?_
  refine o_move rfl rfl guard_none (look_tmp rfl) (fun _ => rfl) ?_
  refine o_weak (H' := [.obj true z1 0 (.dat (T_deque_Deque_repo (Value.slice none 0 0))) (⟨[], 0, 0⟩ : T_deque_Deque), .vec (Value.slice none 0 0) (T_deque_Cell_rep) ([] : List T_deque_Cell)]) (sub_pick [0, 1] rfl rfl) ?_
  refine o_weak (sub_redat ({ (⟨[], 0, 0⟩ : T_deque_Deque) with cells := ([] : List T_deque_Cell) }) (fun _ _ _ h => h)) ?_
  refine o_weak (H' := [.vec (Value.slice none 0 0) (T_deque_Cell_rep) ([] : List T_deque_Cell), .obj true z1 0 (.dat (T_deque_Deque_repo (Value.slice none 0 0))) ({ (⟨[], 0, 0⟩ : T_deque_Deque) with cells := ([] : List T_deque_Cell) })] ++ ([] ++ [])) (sub_pick [1, 0] rfl rfl) ?_
  refine o_callU rfl rfl rfl rfl rfl callable21 (looks_cons (look_tmp rfl) (fun _ => rfl) (looks_cons (look_int rfl) (fun _ => rfl) (looks_nil))) .nil (deque_Deque_Push_ok _ _ _ ({ (⟨[], 0, 0⟩ : T_deque_Deque) with cells := ([] : List T_deque_Cell) }) 5) (fun _ _ => (wr_v (wr_c wr_n))) (fun z3α z2 => ?_)
  refine o_weak (H' := [.vec z3α (T_deque_Cell_rep) z2.2.cells, .obj true z1 0 (.dat (T_deque_Deque_repo z3α)) z2.2]) (sub_pick [0, 1] rfl rfl) ?_
  refine o_move rfl rfl guard_none (look_tmp rfl) (fun _ => rfl) ?_
  refine o_move rfl rfl (guard_some rfl rfl rfl) (look_tmp rfl) (fun _ => rfl) ?_
  refine o_weak (H' := [.vec z3α (T_deque_Cell_rep) z2.2.cells, .obj true z1 0 (.dat (T_deque_Deque_repo z3α)) z2.2] ++ ([] ++ [])) (sub_pick [0, 1] rfl rfl) ?_
  refine o_callX (its := [.vec z3α (T_deque_Cell_rep) z2.2.cells, .obj true z1 0 (.dat (T_deque_Deque_repo z3α)) z2.2]) ((false, z2.2) : (Bool × T_deque_Deque)) z3α rfl rfl rfl rfl (guard_some rfl rfl rfl) callable21 (looks_cons (look_tmp rfl) (fun h => h) (looks_cons (look_int rfl) (fun _ => rfl) (looks_nil))) .nil (deque_Deque_Push_ok _ _ _ z2.2 5) (fun _ _ => (wr_v (wr_c wr_n))) ?_ (fun z6α z5 => ?_)
  · exact fun _ => rfl
  refine o_weak (H' := [.vec z6α (T_deque_Cell_rep) z5.2.cells, .obj true z1 0 (.dat (T_deque_Deque_repo z6α)) z5.2]) (sub_pick [0, 1] rfl rfl) ?_
  refine o_pick rfl rfl guard_none (look_tmp rfl) (look_tmp rfl) look_bool (fun _ => rfl) (fun h1 h2 => pick_t ((fun _ => rfl) h1) h2) (fun _ _ => rfl) ?_
  refine o_move rfl rfl guard_none (look_tmp rfl) (fun _ => rfl) ?_
  refine o_move rfl rfl (guard_some rfl rfl rfl) (look_tmp rfl) (fun _ => rfl) ?_
  refine o_weak (H' := [.vec z6α (T_deque_Cell_rep) z5.2.cells, .obj true z1 0 (.dat (T_deque_Deque_repo z6α)) z5.2] ++ ([] ++ [])) (sub_pick [0, 1] rfl rfl) ?_
  refine o_callX (its := [.vec z6α (T_deque_Cell_rep) z5.2.cells, .obj true z1 0 (.dat (T_deque_Deque_repo z6α)) z5.2]) ((false, z5.2) : (Bool × T_deque_Deque)) z6α rfl rfl rfl rfl (guard_some rfl rfl rfl) callable21 (looks_cons (look_tmp rfl) (fun h => h) (looks_cons (look_int rfl) (fun _ => rfl) (looks_nil))) .nil (deque_Deque_Push_ok _ _ _ z5.2 4) (fun _ _ => (wr_v (wr_c wr_n))) ?_ (fun z9α z8 => ?_)
  · exact fun _ => rfl
  refine o_weak (H' := [.vec z9α (T_deque_Cell_rep) z8.2.cells, .obj true z1 0 (.dat (T_deque_Deque_repo z9α)) z8.2]) (sub_pick [0, 1] rfl rfl) ?_
  refine o_not rfl rfl (guard_some rfl rfl rfl) (look_tmp rfl) (fun h => h) ?_
  refine o_pick rfl rfl guard_none (look_tmp rfl) (look_tmp rfl) look_bool (fun _ => rfl) (fun h1 h2 => pick_t ((fun _ => rfl) h1) h2) (fun _ _ => rfl) ?_
  refine o_move rfl rfl guard_none (look_tmp rfl) (fun _ => rfl) ?_
  refine o_move rfl rfl (guard_some rfl rfl rfl) (look_tmp rfl) (fun _ => rfl) ?_
  refine o_weak (H' := [] ++ ([.vec z9α (T_deque_Cell_rep) z8.2.cells, .obj true z1 0 (.dat (T_deque_Deque_repo z9α)) z8.2] ++ [])) (sub_pick [0, 1] rfl rfl) ?_
  refine o_callX (its := []) (0 : Int) () rfl rfl rfl rfl (guard_some rfl rfl rfl) callable31 (looks_cons (look_tmp rfl) (fun h => h) (looks_nil)) (.vec (.cons .nil)) (deque_Deque_Len_ok _ _ _ z8.2) (fun _ _ => wr_n) ?_ (fun z12α z11 => ?_)
  · exact fun _ => rfl
  refine o_weak (H' := [.vec z9α (T_deque_Cell_rep) z8.2.cells, .obj true z1 0 (.dat (T_deque_Deque_repo z9α)) z8.2]) (sub_pick [0, 1] rfl rfl) ?_
  refine o_eql rfl rfl (guard_some rfl rfl rfl) (look_tmp rfl) (look_int rfl) (fun h => h) (fun _ => rfl) ?_
  refine o_pick rfl rfl guard_none (look_tmp rfl) (look_tmp rfl) look_bool (fun _ => rfl) (fun h1 h2 => pick_t ((fun _ => rfl) h1) h2) (fun _ _ => rfl) ?_
  refine o_move rfl rfl guard_none (look_tmp rfl) (fun _ => rfl) ?_
  refine o_move rfl rfl (guard_some rfl rfl rfl) (look_tmp rfl) (fun _ => rfl) ?_
  refine o_weak (H' := [] ++ ([.vec z9α (T_deque_Cell_rep) z8.2.cells, .obj true z1 0 (.dat (T_deque_Deque_repo z9α)) z8.2] ++ [])) (sub_pick [0, 1] rfl rfl) ?_
  refine o_callX (its := []) (0 : Int) () rfl rfl rfl rfl (guard_some rfl rfl rfl) callable32 (looks_cons (look_tmp rfl) (fun h => h) (looks_nil)) (.vec (.cons .nil)) (deque_Deque_Sum_ok _ _ _ z8.2) (fun _ _ => wr_n) ?_ (fun z14α z13 => ?_)
  · exact fun _ => rfl
  refine o_weak (H' := [.vec z9α (T_deque_Cell_rep) z8.2.cells, .obj true z1 0 (.dat (T_deque_Deque_repo z9α)) z8.2]) (sub_pick [0, 1] rfl rfl) ?_
  refine o_eql rfl rfl (guard_some rfl rfl rfl) (look_tmp rfl) (look_int rfl) (fun h => h) (fun _ => rfl) ?_
  refine o_pick rfl rfl guard_none (look_tmp rfl) (look_tmp rfl) look_bool (fun _ => rfl) (fun h1 h2 => pick_t ((fun _ => rfl) h1) h2) (fun _ _ => rfl) ?_
  refine o_assign rfl rfl guard_none (look_tmp rfl) (fun _ => rfl) ?_
  refine o_lt (fun z15 => ?_)
  refine o_end ?_
  refine den_code_ret ?_
  exact dene_res (res1 rfl (rv_tmp rfl))

theorem deque_Deque_Clear_n0_ok   : FunOk Try.prog 20 [⟨.nilp, (), true⟩] (deque_Deque_Clear_n0) (Rep.unit) := by
  refine fun_ok Try.func20 rfl Try.ntmps20 rfl (all_cons rfl all_nil) (fun w0 ok0 => ?_)
  refine den_seq ?_
  refine den_region rfl ?_
  refine o_move rfl rfl guard_none (look_tmp rfl) (fun _ => rfl) ?_
  refine o_nneq Try.underlying45 rfl rfl guard_none (look_tmp rfl) (fun _ => rfl) ?_
  refine o_end ?_
  refine den_condf (look_tmp rfl) ?_
  refine den_skip ?_
  exact den_fall0x (res0 rfl )

theorem deque_Deque_in_n0_ok   : FunOk Try.prog 34 [⟨.nilp, (), true⟩] (deque_Deque_in_n0) ((T_deque_Cell_rep).slice) := by
  refine fun_ok Try.func34 rfl Try.ntmps34 rfl (all_cons rfl all_nil) (fun w0 ok0 => ?_)
  refine den_seq ?_
  refine den_region rfl ?_
  refine o_assign rfl rfl guard_none look_nil1 (fun _ => rfl) ?_
  refine o_end ?_
  refine den_seq ?_
  refine den_seq ?_
  refine den_region rfl ?_
  refine o_move rfl rfl guard_none (look_tmp rfl) (fun _ => rfl) ?_
  refine o_neql Try.underlying45 rfl rfl guard_none (look_tmp rfl) (fun _ => rfl) ?_
  refine o_end ?_
  refine den_condt (look_tmp rfl) ?_
  refine den_seq ?_
  refine den_region rfl ?_
  refine o_assign rfl rfl guard_none look_nil1 (fun _ => rfl) ?_
  refine o_end ?_
  refine den_code_ret ?_
  refine dene_ret ?_
  refine dene_weak (sub_nild (R := T_deque_Cell_rep) (s := 2) rfl) ?_
  exact dene_res (res1 rfl (rv_tmp rfl))

theorem deque_Deque_Last_n0_ok   : FunOk Try.prog 33 [⟨.nilp, (), true⟩] (deque_Deque_Last_n0) (Rep.pair (T_deque_Cell_rep) (Rep.bool)) := by
  refine fun_ok Try.func33 rfl Try.ntmps33 rfl (all_cons rfl all_nil) (fun w0 ok0 => ?_)
  refine den_seq ?_
  refine den_region rfl ?_
  refine o_alloc zero60 rfl rfl (fun z1 => ?_)
  refine o_assign rfl rfl guard_none look_bool (fun _ => rfl) ?_
  refine o_end ?_
  refine den_seq ?_
  refine den_region rfl ?_
  refine o_move rfl rfl guard_none (look_tmp rfl) (fun _ => rfl) ?_
  refine o_call rfl rfl rfl callable34 (looks_cons (look_tmp rfl) (fun _ => rfl) (looks_nil)) (deque_Deque_in_n0_ok) (fun z2 => ?_)
  refine o_assign rfl rfl guard_none (look_tmp rfl) (fun _ => rfl) ?_
  refine o_end ?_
  refine den_seq ?_
  refine den_seq ?_
  refine den_region rfl ?_
  refine o_move rfl rfl guard_none (look_tmp rfl) (fun _ => rfl) ?_
  refine o_llen Try.underlying54 rfl rfl guard_none (look_tmp rfl) (fun _ => rfl) ?_
  refine o_eql rfl rfl guard_none (look_tmp rfl) (look_int rfl) (fun _ => rfl) (fun _ => rfl) ?_
  refine o_end ?_
  refine den_cond (look_tmp rfl) ?_ ?_
  · refine den_seq ?_
    refine den_region rfl ?_
    refine o_build (R := T_deque_Cell_rep0) (f := T_deque_Cell_tup) (y := (⟨0, 0⟩ : T_deque_Cell)) shape60 rfl rfl rfl rfl guard_none (bld_zero (z_int rfl) (bld_zero (z_int rfl) (bld_nil))) ?_
    refine o_ostore type60 foc_self guard_none (look_tmp rfl) (fun _ => rfl) (look_tmp rfl) (fun _ => rfl) ?_
    refine o_assign rfl rfl guard_none look_bool (fun _ => rfl) ?_
    refine o_end ?_
    refine den_code_ret ?_
    refine dene_ret ?_
    exact dene_res (res2 rfl (rv_cell 0 type60 rfl rfl) (rv_tmp rfl))
  · refine den_skip ?_
    refine den_seq ?_
    refine den_region rfl ?_
    refine o_move rfl rfl guard_none (look_tmp rfl) (fun _ => rfl) ?_
    refine o_move rfl rfl guard_none (look_tmp rfl) (fun _ => rfl) ?_
    refine o_llen Try.underlying54 rfl rfl guard_none (look_tmp rfl) (fun _ => rfl) ?_
    refine o_sub rfl rfl guard_none (look_tmp rfl) (look_int rfl) (fun _ => rfl) (fun _ => rfl) ?_
    refine o_iaddr Try.underlying54 type60 rfl rfl (look_tmp rfl) (look_tmp rfl) rfl rfl (fun z3 => ?_)
    refine o_load type60 rfl rfl guard_none (look_tmp rfl) (fun _ => rfl) ?_
    refine o_ostore type60 foc_self guard_none (look_tmp rfl) (fun _ => rfl) (look_tmp rfl) (fun _ => rfl) ?_
    refine o_assign rfl rfl guard_none look_bool (fun _ => rfl) ?_
    refine o_end ?_
    refine den_code_ret ?_
    exact dene_res (res2 rfl (rv_cell 0 type60 rfl rfl) (rv_tmp rfl))

theorem deque_Deque_Push_n0_ok  (a_1 : Int) : FunOk Try.prog 21 [⟨.nilp, (), true⟩, ⟨Rep.int .i64, a_1, true⟩] (deque_Deque_Push_n0 a_1) (Rep.bool) := by
  refine fun_ok Try.func21 rfl Try.ntmps21 rfl (all_cons rfl (all_cons rfl all_nil)) (fun w0 ok0 => ?_)
  refine den_seq ?_
  refine den_region rfl ?_
  refine o_assign rfl rfl guard_none look_bool (fun _ => rfl) ?_
  refine o_end ?_
  refine den_seq ?_
  refine den_region rfl ?_
  refine o_move rfl rfl guard_none (look_tmp rfl) (fun _ => rfl) ?_
  refine o_call rfl rfl rfl callable33 (looks_cons (look_tmp rfl) (fun _ => rfl) (looks_nil)) (deque_Deque_Last_n0_ok) (fun z1 => ?_)
  refine o_move rfl rfl guard_none (look_tmp rfl) (fun _ => rfl) ?_
  refine o_fst rfl rfl guard_none (look_tmp rfl) (fun _ => rfl) ?_
  refine o_snd rfl rfl guard_none (look_tmp rfl) (fun _ => rfl) ?_
  refine o_alloc zero60 rfl rfl (fun z2 => ?_)
  refine o_ostore type60 foc_self guard_none (look_tmp rfl) (fun _ => rfl) (look_tmp rfl) (fun _ => rfl) ?_
  refine o_assign rfl rfl guard_none (look_tmp rfl) (fun _ => rfl) ?_
  refine o_end ?_
  refine den_seq ?_
  refine den_seq ?_
  refine den_region rfl ?_
  refine o_move rfl rfl guard_none (look_tmp rfl) (fun _ => rfl) ?_
  refine o_neql Try.underlying45 rfl rfl guard_none (look_tmp rfl) (fun _ => rfl) ?_
  refine o_move rfl rfl guard_none (look_tmp rfl) (fun _ => rfl) ?_
  refine o_move rfl rfl (guard_some rfl rfl rfl) (look_tmp rfl) (fun _ => rfl) ?_
  refine o_move rfl rfl (guard_some rfl rfl rfl) (look_tmp rfl) (fun h => h) ?_
  refine o_move rfl rfl (guard_some rfl rfl rfl) (look_tmp rfl) (fun _ => rfl) ?_
  refine o_faddr field60_0 type2 (by decide) rfl rfl (guard_some rfl rfl rfl) (look_tmp rfl) (fun _ => rfl) ?_
  refine o_oloadi 0 rfl type2 T_deque_Cell_foc0 rfl (guard_some rfl rfl rfl) (look_tmp rfl) (fun h => h) ?_
  refine o_lss rfl rfl (guard_some rfl rfl rfl) (look_tmp rfl) (look_tmp rfl) (fun h => h) (fun h => h) ?_
  refine o_pick rfl rfl (guard_some rfl rfl rfl) (look_tmp rfl) (look_tmp rfl) look_bool (fun h => h) (fun h1 h2 => pick_t ((fun h => h) h1) h2) (fun _ _ => rfl) ?_
  refine o_pick rfl rfl guard_none (look_tmp rfl) look_bool (look_tmp rfl) (fun _ => rfl) (fun _ _ => rfl) (fun h1 h2 => pick_f ((fun _ => rfl) h1) h2) ?_
  refine o_end ?_
  refine den_cond (look_tmp rfl) ?_ ?_
  · refine den_seq ?_
    refine den_region rfl ?_
    refine o_assign rfl rfl guard_none look_bool (fun _ => rfl) ?_
    refine o_end ?_
    refine den_code_ret ?_
    refine dene_ret ?_
    exact dene_res (res1 rfl (rv_tmp rfl))
  · refine den_skip ?_
    refine den_seq ?_
    refine den_seq ?_
    refine den_region rfl ?_
    refine o_move rfl rfl guard_none (look_tmp rfl) (fun _ => rfl) ?_
    refine o_not rfl rfl guard_none (look_tmp rfl) (fun _ => rfl) ?_
    refine o_move rfl rfl guard_none (look_tmp rfl) (fun _ => rfl) ?_
    refine o_move rfl rfl (guard_some rfl rfl rfl) (look_tmp rfl) (fun _ => rfl) ?_
    refine o_faddr field60_0 type2 (by decide) rfl rfl (guard_some rfl rfl rfl) (look_tmp rfl) (fun _ => rfl) ?_
    refine o_oloadi 0 rfl type2 T_deque_Cell_foc0 rfl (guard_some rfl rfl rfl) (look_tmp rfl) (fun h => h) ?_
    refine o_gtr rfl rfl (guard_some rfl rfl rfl) (look_tmp rfl) (look_tmp rfl) (fun h => h) (fun h => h) ?_
    refine o_pick rfl rfl guard_none (look_tmp rfl) look_bool (look_tmp rfl) (fun _ => rfl) (fun _ _ => rfl) (fun h1 h2 => pick_f ((fun _ => rfl) h1) h2) ?_
    refine o_end ?_
    refine den_cond (look_tmp rfl) ?_ ?_
    · refine den_seq ?_
      refine den_region rfl ?_
      refine o_move rfl rfl guard_none (look_tmp rfl) (fun _ => rfl) ?_
      refine o_move rfl rfl guard_none (look_tmp rfl) (fun _ => rfl) ?_
      exact o_none
    · refine den_seq ?_
      refine den_region rfl ?_
      refine o_faddr field60_1 type3 (by decide) rfl rfl guard_none (look_tmp rfl) (fun _ => rfl) ?_
      refine o_oloadi 0 rfl type3 T_deque_Cell_foc1 rfl guard_none (look_tmp rfl) (fun _ => rfl) ?_
      refine o_lss rfl rfl guard_none (look_tmp rfl) (look_int rfl) (fun _ => rfl) (fun _ => rfl) ?_
      refine o_end ?_
      refine den_cond (look_tmp rfl) ?_ ?_
      · refine den_seq ?_
        exact den_none
      · refine den_skip ?_
        refine den_seq ?_
        refine den_region rfl ?_
        refine o_assign rfl rfl guard_none look_bool (fun _ => rfl) ?_
        refine o_end ?_
        refine den_code_ret ?_
        exact dene_res (res1 rfl (rv_tmp rfl))

theorem deque_Deque_Prune_n0_ok  (a_1 : Int) : FunOk Try.prog 22 [⟨.nilp, (), true⟩, ⟨Rep.int .i64, a_1, true⟩] (deque_Deque_Prune_n0 a_1) (Rep.int .i64) := by
  refine fun_ok Try.func22 rfl Try.ntmps22 rfl (all_cons rfl (all_cons rfl all_nil)) (fun w0 ok0 => ?_)
  refine den_seq ?_
  refine den_region rfl ?_
  refine o_assign rfl rfl guard_none (look_int rfl) (fun _ => rfl) ?_
  refine o_end ?_
  refine den_seq ?_
  refine den_region rfl ?_
  refine o_assign rfl rfl guard_none (look_int rfl) (fun _ => rfl) ?_
  refine o_end ?_
  refine den_seq ?_
  refine den_seq ?_
  refine den_region rfl ?_
  refine o_move rfl rfl guard_none (look_tmp rfl) (fun _ => rfl) ?_
  refine o_call rfl rfl rfl callable34 (looks_cons (look_tmp rfl) (fun _ => rfl) (looks_nil)) (deque_Deque_in_n0_ok) (fun z1 => ?_)
  refine o_llen Try.underlying54 rfl rfl guard_none (look_tmp rfl) (fun _ => rfl) ?_
  refine o_move rfl rfl guard_none (look_int rfl) (fun _ => rfl) ?_
  refine o_end ?_
  refine den_bind (fun z2 => [(5, ⟨Rep.int .i64, z2, true⟩), (0, ⟨Rep.nilp, (), true⟩)]) (fun z2 => []) ?_ (fun z2 => ?_)
  · refine den_block ?_
    refine den_loop (deque_Deque_Prune_n0_L1b z1 a_1) (fun z3 => [(5, ⟨Rep.int .i64, z3.1, true⟩), (11, ⟨Rep.int .i64, z3.2, true⟩), (0, ⟨Rep.nilp, (), true⟩), (1, ⟨Rep.int .i64, a_1, true⟩), (9, ⟨(T_deque_Cell_rep).slice, z1, true⟩), (10, ⟨Rep.int .i64, (z1.length : Int), true⟩)]) (fun z3 => []) (0, 0) (fun z3 => ?_) ((sub_env (sube_cons rfl (sube_cons rfl (sube_cons rfl (sube_cons rfl (sube_cons rfl (sube_cons rfl (sube_nil)))))))))
    refine den_seq ?_
    refine den_region rfl ?_
    refine o_lss rfl rfl guard_none (look_tmp rfl) (look_tmp rfl) (fun _ => rfl) (fun _ => rfl) ?_
    refine o_end ?_
    refine den_seq ?_
    refine den_cond (look_tmp rfl) ?_ ?_
    · refine den_skip ?_
      refine den_seq ?_
      refine den_block ?_
      refine den_seq ?_
      refine den_region rfl ?_
      refine o_iaddr Try.underlying54 type60 rfl rfl (look_tmp rfl) (look_tmp rfl) rfl rfl (fun z4 => ?_)
      refine o_load type60 rfl rfl guard_none (look_tmp rfl) (fun _ => rfl) ?_
      refine o_alloc zero60 rfl rfl (fun z5 => ?_)
      refine o_ostore type60 foc_self guard_none (look_tmp rfl) (fun _ => rfl) (look_tmp rfl) (fun _ => rfl) ?_
      refine o_end ?_
      refine den_seq ?_
      refine den_seq ?_
      refine den_region rfl ?_
      refine o_faddr field60_0 type2 (by decide) rfl rfl guard_none (look_tmp rfl) (fun _ => rfl) ?_
      refine o_oloadi 0 rfl type2 T_deque_Cell_foc0 rfl guard_none (look_tmp rfl) (fun _ => rfl) ?_
      refine o_move rfl rfl guard_none (look_tmp rfl) (fun _ => rfl) ?_
      refine o_geq rfl rfl guard_none (look_tmp rfl) (look_tmp rfl) (fun _ => rfl) (fun _ => rfl) ?_
      refine o_end ?_
      refine den_cond (look_tmp rfl) ?_ ?_
      · refine den_code_exit ?_
        refine dene_out rfl ?_
        refine dene_loop (by simp) ?_
        refine dene_to rfl ?_
        refine den_end ((Sub.trans (sub_pick [] rfl rfl) (sub_env (sube_cons rfl (sube_cons rfl (sube_nil))))))
      · refine den_skip ?_
        refine den_seq ?_
        exact den_none
    · refine den_code_exit ?_
      refine dene_out rfl ?_
      refine dene_loop (by simp) ?_
      refine dene_to rfl ?_
      refine den_end ((sub_env (sube_cons rfl (sube_cons rfl (sube_nil)))))
  refine den_seq ?_
  refine den_seq ?_
  refine den_region rfl ?_
  refine o_move rfl rfl guard_none (look_tmp rfl) (fun _ => rfl) ?_
  refine o_gtr rfl rfl guard_none (look_tmp rfl) (look_int rfl) (fun _ => rfl) (fun _ => rfl) ?_
  refine o_end ?_
  refine den_cond (look_tmp rfl) ?_ ?_
  · refine den_seq ?_
    refine den_region rfl ?_
    refine o_move rfl rfl guard_none (look_tmp rfl) (fun _ => rfl) ?_
    exact o_none
  · refine den_skip ?_
    refine den_seq ?_
    refine den_region rfl ?_
    refine o_move rfl rfl guard_none (look_tmp rfl) (fun _ => rfl) ?_
    refine o_assign rfl rfl guard_none (look_tmp rfl) (fun _ => rfl) ?_
    refine o_end ?_
    refine den_code_ret ?_
    exact dene_res (res1 rfl (rv_tmp rfl))

theorem deque_Deque_First_n0_ok   : FunOk Try.prog 36 [⟨.nilp, (), true⟩] (deque_Deque_First_n0) (Rep.pair (T_deque_Cell_rep) (Rep.bool)) := by
  refine fun_ok Try.func36 rfl Try.ntmps36 rfl (all_cons rfl all_nil) (fun w0 ok0 => ?_)
  refine den_seq ?_
  refine den_region rfl ?_
  refine o_alloc zero60 rfl rfl (fun z1 => ?_)
  refine o_assign rfl rfl guard_none look_bool (fun _ => rfl) ?_
  refine o_end ?_
  refine den_seq ?_
  refine den_region rfl ?_
  refine o_move rfl rfl guard_none (look_tmp rfl) (fun _ => rfl) ?_
  refine o_call rfl rfl rfl callable34 (looks_cons (look_tmp rfl) (fun _ => rfl) (looks_nil)) (deque_Deque_in_n0_ok) (fun z2 => ?_)
  refine o_assign rfl rfl guard_none (look_tmp rfl) (fun _ => rfl) ?_
  refine o_end ?_
  refine den_seq ?_
  refine den_seq ?_
  refine den_region rfl ?_
  refine o_move rfl rfl guard_none (look_tmp rfl) (fun _ => rfl) ?_
  refine o_llen Try.underlying54 rfl rfl guard_none (look_tmp rfl) (fun _ => rfl) ?_
  refine o_eql rfl rfl guard_none (look_tmp rfl) (look_int rfl) (fun _ => rfl) (fun _ => rfl) ?_
  refine o_end ?_
  refine den_cond (look_tmp rfl) ?_ ?_
  · refine den_seq ?_
    refine den_region rfl ?_
    refine o_build (R := T_deque_Cell_rep0) (f := T_deque_Cell_tup) (y := (⟨0, 0⟩ : T_deque_Cell)) shape60 rfl rfl rfl rfl guard_none (bld_zero (z_int rfl) (bld_zero (z_int rfl) (bld_nil))) ?_
    refine o_ostore type60 foc_self guard_none (look_tmp rfl) (fun _ => rfl) (look_tmp rfl) (fun _ => rfl) ?_
    refine o_assign rfl rfl guard_none look_bool (fun _ => rfl) ?_
    refine o_end ?_
    refine den_code_ret ?_
    refine dene_ret ?_
    exact dene_res (res2 rfl (rv_cell 0 type60 rfl rfl) (rv_tmp rfl))
  · refine den_skip ?_
    refine den_seq ?_
    refine den_region rfl ?_
    refine o_move rfl rfl guard_none (look_tmp rfl) (fun _ => rfl) ?_
    refine o_iaddr Try.underlying54 type60 rfl rfl (look_tmp rfl) (look_int rfl) rfl rfl (fun z3 => ?_)
    refine o_load type60 rfl rfl guard_none (look_tmp rfl) (fun _ => rfl) ?_
    refine o_ostore type60 foc_self guard_none (look_tmp rfl) (fun _ => rfl) (look_tmp rfl) (fun _ => rfl) ?_
    refine o_assign rfl rfl guard_none look_bool (fun _ => rfl) ?_
    refine o_end ?_
    refine den_code_ret ?_
    exact dene_res (res2 rfl (rv_cell 0 type60 rfl rfl) (rv_tmp rfl))

theorem slices_Clone_deque_Cell_deque_Cell_ok  (s_0 : (List T_deque_Cell)) : FunOkI Try.prog 40 [⟨(T_deque_Cell_rep).slice, s_0, true⟩] [] (slices_Clone_deque_Cell_deque_Cell s_0) (Rep.val1) (fun (α : Value) (y : (List T_deque_Cell)) => α) (fun α y => [.vec α (T_deque_Cell_rep) y]) := by
  refine fun_okI Try.func40 rfl Try.ntmps40 rfl (all_cons rfl all_nil) (fun w0 ok0 M => ?_)
  refine den_seq ?_
  refine den_region rfl ?_
  refine o_assign rfl rfl guard_none look_nil1 (fun _ => rfl) ?_
  refine o_end ?_
  refine den_seq ?_
  refine den_seq ?_
  refine den_region rfl ?_
  refine o_move rfl rfl guard_none (look_tmp rfl) (fun _ => rfl) ?_
  refine o_slnil (.inl rfl) Try.underlying54 rfl (look_tmp rfl) rfl ?_ ?_
  · show DenO _ _ _ _ _ ((4, ⟨.bool, true, true⟩) :: _) _ _
    refine o_end ?_
    refine den_condt (look_tmp rfl) ?_
    refine den_seq ?_
    refine den_region rfl ?_
    refine o_assign rfl rfl guard_none look_nil1 (fun _ => rfl) ?_
    refine o_end ?_
    refine den_code_ret ?_
    refine dene_ret ?_
    refine dene_weak (sub_nilvec (R := T_deque_Cell_rep) rfl) ?_
    exact dene_resI (Value.slice none 0 0) (res1 rfl (rv_tmp rfl)) (fun _ _ _ k => ato_pick [0] rfl rfl k)
  · show DenO _ _ _ _ _ ((4, ⟨.bool, false, true⟩) :: _) _ _
    refine o_end ?_
    refine den_condf (look_tmp rfl) ?_
    refine den_skip ?_
    refine den_seq ?_
    refine den_region rfl ?_
    refine o_bvec0 Try.underlying54 type60 rfl (fun z1 => ?_)
    refine o_move rfl rfl guard_none (look_tmp rfl) (fun _ => rfl) ?_
    refine o_append Try.underlying54 (info_i info60) (info_z info60) (info_all info60).2.1 rfl (info_all info60).2.2 rfl (look_tmp rfl) rfl (feeds_slice Try.underlying54 rfl (look_tmp rfl) rfl) (fun z3 z2 => ?_)
    refine o_assign rfl rfl guard_none (look_tmp rfl) (fun _ => rfl) ?_
    refine o_end ?_
    refine den_code_ret ?_
    exact dene_resI z3 (res1 rfl (rv_tmp rfl)) (fun _ _ _ k => ato_pick [0] rfl rfl k)

theorem deque_Deque_All_n0_ok   : FunOkI Try.prog 38 [⟨.nilp, (), true⟩] [] (deque_Deque_All_n0) (Rep.val1) (fun (α : Value) (y : (List T_deque_Cell)) => α) (fun α y => [.vec α (T_deque_Cell_rep) y]) := by
  refine fun_okI Try.func38 rfl Try.ntmps38 rfl (all_cons rfl all_nil) (fun w0 ok0 M => ?_)
  refine den_seq ?_
  refine den_region rfl ?_
  refine o_assign rfl rfl guard_none look_nil1 (fun _ => rfl) ?_
  refine o_end ?_
  refine den_seq ?_
  refine den_region rfl ?_
  refine o_move rfl rfl guard_none (look_tmp rfl) (fun _ => rfl) ?_
  refine o_call rfl rfl rfl callable34 (looks_cons (look_tmp rfl) (fun _ => rfl) (looks_nil)) (deque_Deque_in_n0_ok) (fun z1 => ?_)
  refine o_weak (H' := [] ++ ([] ++ [])) (sub_pick [] rfl rfl) ?_
  refine o_callU rfl rfl rfl rfl rfl callable40 (looks_cons (look_tmp rfl) (fun _ => rfl) (looks_nil)) .nil (slices_Clone_deque_Cell_deque_Cell_ok z1) (fun _ _ => (wr_v wr_n)) (fun z3α z2 => ?_)
  refine o_weak (H' := [.vec z3α (T_deque_Cell_rep) z2]) (sub_pick [0] rfl rfl) ?_
  refine o_assign rfl rfl guard_none (look_tmp rfl) (fun _ => rfl) ?_
  refine o_end ?_
  refine den_code_ret ?_
  exact dene_resI z3α (res1 rfl (rv_tmp rfl)) (fun _ _ _ k => ato_pick [0] rfl rfl k)

theorem law15_cells_ok  (a_0 : (List T_deque_Cell)) (b_1 : (List T_deque_Cell)) : FunOk Try.prog 37 [⟨(T_deque_Cell_rep).slice, a_0, true⟩, ⟨(T_deque_Cell_rep).slice, b_1, true⟩] (law15_cells a_0 b_1) (Rep.bool) := by
  refine fun_ok Try.func37 rfl Try.ntmps37 rfl (all_cons rfl (all_cons rfl all_nil)) (fun w0 ok0 => ?_)
  refine den_seq ?_
  refine den_region rfl ?_
  refine o_assign rfl rfl guard_none look_bool (fun _ => rfl) ?_
  refine o_end ?_
  refine den_seq ?_
  refine den_seq ?_
  refine den_region rfl ?_
  refine o_move rfl rfl guard_none (look_tmp rfl) (fun _ => rfl) ?_
  refine o_llen Try.underlying54 rfl rfl guard_none (look_tmp rfl) (fun _ => rfl) ?_
  refine o_move rfl rfl guard_none (look_tmp rfl) (fun _ => rfl) ?_
  refine o_llen Try.underlying54 rfl rfl guard_none (look_tmp rfl) (fun _ => rfl) ?_
  refine o_neq rfl rfl guard_none (look_tmp rfl) (look_tmp rfl) (fun _ => rfl) (fun _ => rfl) ?_
  refine o_end ?_
  refine den_cond (look_tmp rfl) ?_ ?_
  · refine den_seq ?_
    refine den_region rfl ?_
    refine o_assign rfl rfl guard_none look_bool (fun _ => rfl) ?_
    refine o_end ?_
    refine den_code_ret ?_
    refine dene_ret ?_
    exact dene_res (res1 rfl (rv_tmp rfl))
  · refine den_skip ?_
    refine den_seq ?_
    refine den_seq ?_
    refine den_region rfl ?_
    refine o_assign rfl rfl guard_none (look_int rfl) (fun _ => rfl) ?_
    refine o_end ?_
    refine den_both (fun z1 => []) (fun z1 => []) ?_ (fun z1 => ?_)
    · refine den_block ?_
      refine den_loop (law15_cells_L1b a_0 b_1) (fun z2 => [(5, ⟨Rep.int .i64, z2, true⟩), (0, ⟨(T_deque_Cell_rep).slice, a_0, true⟩), (1, ⟨(T_deque_Cell_rep).slice, b_1, true⟩)]) (fun z2 => []) 0 (fun z2 => ?_) ((sub_env (sube_cons rfl (sube_cons rfl (sube_cons rfl (sube_nil))))))
      refine den_seq ?_
      refine den_seq ?_
      refine den_region rfl ?_
      refine o_move rfl rfl guard_none (look_tmp rfl) (fun _ => rfl) ?_
      refine o_move rfl rfl guard_none (look_tmp rfl) (fun _ => rfl) ?_
      refine o_llen Try.underlying54 rfl rfl guard_none (look_tmp rfl) (fun _ => rfl) ?_
      refine o_lss rfl rfl guard_none (look_tmp rfl) (look_tmp rfl) (fun _ => rfl) (fun _ => rfl) ?_
      refine o_end ?_
      refine den_cond (look_tmp rfl) ?_ ?_
      · refine den_skip ?_
        refine den_seq ?_
        refine den_block ?_
        refine den_seq ?_
        refine den_open (fun z3 h_z3 => ?_)
        refine den_open (fun z4 h_z4 => ?_)
        refine den_draw [(17, ⟨(T_deque_Cell_rep).slice, a_0, true⟩), (18, ⟨Rep.int .i64, z2, true⟩), (19, ⟨(T_deque_Cell_rep).ptrTo, z3, true⟩), (20, ⟨T_deque_Cell_rep, z3, true⟩), (21, ⟨(T_deque_Cell_rep).slice, b_1, true⟩), (22, ⟨Rep.int .i64, z2, true⟩), (23, ⟨(T_deque_Cell_rep).ptrTo, z4, true⟩), (24, ⟨T_deque_Cell_rep, z4, true⟩), (25, ⟨Rep.bool, !(T_deque_Cell_eqb z3 z4), true⟩)] mixed rfl rfl ⟨?_, ?_, ?_, ?_, ?_, ?_, ?_, ?_, ?_, trivial⟩ ?_
        · intro S hc hk hp
          refine o_move rfl rfl guard_none (look_o rfl rfl) (fun _ => rfl) ?_
          exact d_end rfl rfl rfl
        · intro S hc hk hp
          refine o_move rfl rfl guard_none (look_o rfl rfl) (fun _ => rfl) ?_
          exact d_end rfl rfl rfl
        · intro S hc hk hp
          refine o_from (bind_eqO h_z3) ?_
          refine o_iaddr Try.underlying54 type60 rfl rfl (look_d rfl rfl (pr hp 0 rfl rfl)) (look_d rfl rfl (pr hp 1 rfl rfl)) rfl rfl (o_eqO ?_)
          exact d_end rfl rfl rfl
        · intro S hc hk hp
          refine o_load type60 rfl rfl guard_none (look_d rfl rfl (pr hp 0 rfl rfl)) (fun _ => rfl) ?_
          exact d_end rfl rfl rfl
        · intro S hc hk hp
          refine o_move rfl rfl guard_none (look_o rfl rfl) (fun _ => rfl) ?_
          exact d_end rfl rfl rfl
        · intro S hc hk hp
          refine o_move rfl rfl guard_none (look_o rfl rfl) (fun _ => rfl) ?_
          exact d_end rfl rfl rfl
        · intro S hc hk hp
          refine o_from (bind_eqO h_z4) ?_
          refine o_iaddr Try.underlying54 type60 rfl rfl (look_d rfl rfl (pr hp 0 rfl rfl)) (look_d rfl rfl (pr hp 1 rfl rfl)) rfl rfl (o_eqO ?_)
          exact d_end rfl rfl rfl
        · intro S hc hk hp
          refine o_load type60 rfl rfl guard_none (look_d rfl rfl (pr hp 0 rfl rfl)) (fun _ => rfl) ?_
          exact d_end rfl rfl rfl
        · intro S hc hk hp
          refine o_stneq (e := T_deque_Cell_eqb) rfl (by kernel_rfl) eqok60 rfl guard_none (look_d rfl rfl (pr hp 0 rfl rfl)) (look_d rfl rfl (pr hp 1 rfl rfl)) (fun _ => rfl) (fun _ => rfl) ?_
          exact d_end rfl rfl rfl
        refine den_cond (look_tmp rfl) ?_ ?_
        · refine den_seq ?_
          refine den_region rfl ?_
          refine o_assign rfl rfl guard_none look_bool (fun _ => rfl) ?_
          refine o_end ?_
          refine den_code_ret ?_
          refine dene_ret ?_
          refine dene_loop (by simp) ?_
          refine dene_ret ?_
          refine dene_both (by simp) ?_
          refine dene_ret ?_
          exact dene_res (res1 rfl (rv_tmp rfl))
        · refine den_skip ?_
          refine den_blkend ?_
          refine den_region rfl ?_
          refine o_move rfl rfl guard_none (look_tmp rfl) (fun _ => rfl) ?_
          refine o_add rfl rfl guard_none (look_tmp rfl) (look_int rfl) (fun _ => rfl) (fun _ => rfl) ?_
          refine o_assign rfl rfl guard_none (look_tmp rfl) (fun _ => rfl) ?_
          refine o_end ?_
          refine den_next ((sub_env (sube_cons rfl (sube_cons rfl (sube_cons rfl (sube_nil))))))
      · refine den_code_exit ?_
        refine dene_out rfl ?_
        refine dene_loop (by simp) ?_
        refine dene_to rfl ?_
        refine den_endl ((sub_env (sube_nil)))
    refine den_seq ?_
    refine den_region rfl ?_
    refine o_assign rfl rfl guard_none look_bool (fun _ => rfl) ?_
    refine o_end ?_
    refine den_code_ret ?_
    exact dene_res (res1 rfl (rv_tmp rfl))

theorem deque_Deque_Len_n0_ok   : FunOk Try.prog 31 [⟨.nilp, (), true⟩] (deque_Deque_Len_n0) (Rep.int .i64) := by
  refine fun_ok Try.func31 rfl Try.ntmps31 rfl (all_cons rfl all_nil) (fun w0 ok0 => ?_)
  refine den_seq ?_
  refine den_region rfl ?_
  refine o_assign rfl rfl guard_none (look_int rfl) (fun _ => rfl) ?_
  refine o_end ?_
  refine den_seq ?_
  refine den_region rfl ?_
  refine o_move rfl rfl guard_none (look_tmp rfl) (fun _ => rfl) ?_
  refine o_call rfl rfl rfl callable34 (looks_cons (look_tmp rfl) (fun _ => rfl) (looks_nil)) (deque_Deque_in_n0_ok) (fun z1 => ?_)
  refine o_llen Try.underlying54 rfl rfl guard_none (look_tmp rfl) (fun _ => rfl) ?_
  refine o_assign rfl rfl guard_none (look_tmp rfl) (fun _ => rfl) ?_
  refine o_end ?_
  refine den_code_ret ?_
  exact dene_res (res1 rfl (rv_tmp rfl))

theorem deque_Deque_Sum_n0_ok   : FunOk Try.prog 32 [⟨.nilp, (), true⟩] (deque_Deque_Sum_n0) (Rep.int .i64) := by
  refine fun_ok Try.func32 rfl Try.ntmps32 rfl (all_cons rfl all_nil) (fun w0 ok0 => ?_)
  refine den_seq ?_
  refine den_region rfl ?_
  refine o_assign rfl rfl guard_none (look_int rfl) (fun _ => rfl) ?_
  refine o_end ?_
  refine den_seq ?_
  refine den_seq ?_
  refine den_region rfl ?_
  refine o_move rfl rfl guard_none (look_tmp rfl) (fun _ => rfl) ?_
  refine o_neql Try.underlying45 rfl rfl guard_none (look_tmp rfl) (fun _ => rfl) ?_
  refine o_end ?_
  refine den_condt (look_tmp rfl) ?_
  refine den_seq ?_
  refine den_region rfl ?_
  refine o_assign rfl rfl guard_none (look_int rfl) (fun _ => rfl) ?_
  refine o_end ?_
  refine den_code_ret ?_
  refine dene_ret ?_
  exact dene_res (res1 rfl (rv_tmp rfl))

theorem law15_like_n0_ok  (m_1 : (List T_deque_Cell)) : FunOk Try.prog 23 [⟨.nilp, (), true⟩, ⟨(T_deque_Cell_rep).slice, m_1, true⟩] (law15_like_n0 m_1) (Rep.bool) := by
  refine fun_ok Try.func23 rfl Try.ntmps23 rfl (all_cons rfl (all_cons rfl all_nil)) (fun w0 ok0 => ?_)
  refine den_seq ?_
  refine den_region rfl ?_
  refine o_assign rfl rfl guard_none look_bool (fun _ => rfl) ?_
  refine o_end ?_
  refine den_seq ?_
  refine den_region rfl ?_
  refine o_assign rfl rfl guard_none (look_int rfl) (fun _ => rfl) ?_
  refine o_end ?_
  refine den_seq ?_
  refine den_seq ?_
  refine den_region rfl ?_
  refine o_assign rfl rfl guard_none (look_int rfl) (fun _ => rfl) ?_
  refine o_end ?_
  refine den_bind (fun z1 => [(5, ⟨Rep.int .i64, z1, true⟩), (0, ⟨Rep.nilp, (), true⟩), (1, ⟨(T_deque_Cell_rep).slice, m_1, true⟩)]) (fun z1 => []) ?_ (fun z1 => ?_)
  · refine den_block ?_
    refine den_loop (law15_like_n0_L1b m_1) (fun z15 => [(5, ⟨Rep.int .i64, z15.1, true⟩), (6, ⟨Rep.int .i64, z15.2, true⟩), (0, ⟨Rep.nilp, (), true⟩), (1, ⟨(T_deque_Cell_rep).slice, m_1, true⟩)]) (fun z15 => []) (0, 0) (fun z15 => ?_) ((sub_env (sube_cons rfl (sube_cons rfl (sube_cons rfl (sube_cons rfl (sube_nil)))))))
    refine den_seq ?_
    refine den_seq ?_
    refine den_region rfl ?_
    refine o_move rfl rfl guard_none (look_tmp rfl) (fun _ => rfl) ?_
    refine o_move rfl rfl guard_none (look_tmp rfl) (fun _ => rfl) ?_
    refine o_llen Try.underlying54 rfl rfl guard_none (look_tmp rfl) (fun _ => rfl) ?_
    refine o_lss rfl rfl guard_none (look_tmp rfl) (look_tmp rfl) (fun _ => rfl) (fun _ => rfl) ?_
    refine o_end ?_
    refine den_cond (look_tmp rfl) ?_ ?_
    · refine den_skip ?_
      refine den_seq ?_
      refine den_block ?_
      refine den_region rfl ?_
      refine o_move rfl rfl guard_none (look_tmp rfl) (fun _ => rfl) ?_
      refine o_move rfl rfl guard_none (look_tmp rfl) (fun _ => rfl) ?_
      refine o_move rfl rfl guard_none (look_tmp rfl) (fun _ => rfl) ?_
      refine o_iaddr Try.underlying54 type60 rfl rfl (look_tmp rfl) (look_tmp rfl) rfl rfl (fun z16 => ?_)
      refine o_fptr field60_1 type3 (by decide) T_deque_Cell_foc1 rfl rfl guard_none (look_tmp rfl) (fun _ => rfl) ?_
      refine o_load type3 rfl rfl guard_none (look_tmp rfl) (fun _ => rfl) ?_
      refine o_add rfl rfl guard_none (look_tmp rfl) (look_tmp rfl) (fun _ => rfl) (fun _ => rfl) ?_
      refine o_assign rfl rfl guard_none (look_tmp rfl) (fun _ => rfl) ?_
      refine o_end ?_
      refine den_blkend ?_
      refine den_region rfl ?_
      refine o_move rfl rfl guard_none (look_tmp rfl) (fun _ => rfl) ?_
      refine o_add rfl rfl guard_none (look_tmp rfl) (look_int rfl) (fun _ => rfl) (fun _ => rfl) ?_
      refine o_assign rfl rfl guard_none (look_tmp rfl) (fun _ => rfl) ?_
      refine o_end ?_
      refine den_next ((sub_env (sube_cons rfl (sube_cons rfl (sube_cons rfl (sube_cons rfl (sube_nil)))))))
    · refine den_code_exit ?_
      refine dene_out rfl ?_
      refine dene_loop (by simp) ?_
      refine dene_to rfl ?_
      refine den_end ((sub_env (sube_cons rfl (sube_cons rfl (sube_cons rfl (sube_nil))))))
  refine den_seq ?_
  refine den_region rfl ?_
  refine o_move rfl rfl guard_none (look_tmp rfl) (fun _ => rfl) ?_
  refine o_call rfl rfl rfl callable36 (looks_cons (look_tmp rfl) (fun _ => rfl) (looks_nil)) (deque_Deque_First_n0_ok) (fun z2 => ?_)
  refine o_move rfl rfl guard_none (look_tmp rfl) (fun _ => rfl) ?_
  refine o_fst rfl rfl guard_none (look_tmp rfl) (fun _ => rfl) ?_
  refine o_snd rfl rfl guard_none (look_tmp rfl) (fun _ => rfl) ?_
  refine o_alloc zero60 rfl rfl (fun z3 => ?_)
  refine o_ostore type60 foc_self guard_none (look_tmp rfl) (fun _ => rfl) (look_tmp rfl) (fun _ => rfl) ?_
  refine o_assign rfl rfl guard_none (look_tmp rfl) (fun _ => rfl) ?_
  refine o_end ?_
  refine den_seq ?_
  refine den_region rfl ?_
  refine o_move rfl rfl guard_none (look_tmp rfl) (fun _ => rfl) ?_
  refine o_call rfl rfl rfl callable33 (looks_cons (look_tmp rfl) (fun _ => rfl) (looks_nil)) (deque_Deque_Last_n0_ok) (fun z4 => ?_)
  refine o_move rfl rfl guard_none (look_tmp rfl) (fun _ => rfl) ?_
  refine o_fst rfl rfl guard_none (look_tmp rfl) (fun _ => rfl) ?_
  refine o_snd rfl rfl guard_none (look_tmp rfl) (fun _ => rfl) ?_
  refine o_alloc zero60 rfl rfl (fun z5 => ?_)
  refine o_ostore type60 foc_self guard_none (look_tmp rfl) (fun _ => rfl) (look_tmp rfl) (fun _ => rfl) ?_
  refine o_assign rfl rfl guard_none (look_tmp rfl) (fun _ => rfl) ?_
  refine o_end ?_
  refine den_seq ?_
  refine den_seq ?_
  refine den_region rfl ?_
  refine o_move rfl rfl guard_none (look_tmp rfl) (fun _ => rfl) ?_
  refine o_weak (H' := [] ++ ([] ++ [.obj true z5 0 (.dat T_deque_Cell_rep) z4.1, .obj true z3 0 (.dat T_deque_Cell_rep) z2.1])) (sub_pick [0, 1] rfl rfl) ?_
  refine o_callU rfl rfl rfl rfl rfl callable38 (looks_cons (look_tmp rfl) (fun _ => rfl) (looks_nil)) .nil (deque_Deque_All_n0_ok ) (fun _ _ => (wr_v wr_n)) (fun z7α z6 => ?_)
  refine o_weak (H' := [.vec z7α (T_deque_Cell_rep) z6, .obj true z5 0 (.dat T_deque_Cell_rep) z4.1, .obj true z3 0 (.dat T_deque_Cell_rep) z2.1]) (sub_pick [0, 1, 2] rfl rfl) ?_
  refine o_move rfl rfl guard_none (look_tmp rfl) (fun _ => rfl) ?_
  refine o_lend1 false rfl rfl rfl rfl guard_none callable37 (looksM_l 0 rfl (lookl_wholeg (.inl rfl) (look_tmp rfl) (fun _ => rfl)) (looksM_c (look_tmp rfl) (fun _ => rfl) (looksM_nil))) fl_bool (law15_cells_ok _ _) (fun z9 => ?_)
  refine o_not rfl rfl guard_none (look_tmp rfl) (fun _ => rfl) ?_
  refine o_move rfl rfl guard_none (look_tmp rfl) (fun _ => rfl) ?_
  refine o_move rfl rfl (guard_some rfl rfl rfl) (look_tmp rfl) (fun _ => rfl) ?_
  refine o_callg rfl rfl rfl (guard_some rfl rfl rfl) callable31 (looks_cons (look_tmp rfl) (fun h => h) (looks_nil)) (deque_Deque_Len_n0_ok) (fun z10 => ?_)
  refine o_move rfl rfl (guard_some rfl rfl rfl) (look_tmp rfl) (fun _ => rfl) ?_
  refine o_llen Try.underlying54 rfl rfl (guard_some rfl rfl rfl) (look_tmp rfl) (fun h => h) ?_
  refine o_neq rfl rfl (guard_some rfl rfl rfl) (look_tmp rfl) (look_tmp rfl) (fun h => h) (fun h => h) ?_
  refine o_pick rfl rfl guard_none (look_tmp rfl) look_bool (look_tmp rfl) (fun _ => rfl) (fun _ _ => rfl) (fun h1 h2 => pick_f ((fun _ => rfl) h1) h2) ?_
  refine o_move rfl rfl guard_none (look_tmp rfl) (fun _ => rfl) ?_
  refine o_move rfl rfl (guard_some rfl rfl rfl) (look_tmp rfl) (fun _ => rfl) ?_
  refine o_callg rfl rfl rfl (guard_some rfl rfl rfl) callable32 (looks_cons (look_tmp rfl) (fun h => h) (looks_nil)) (deque_Deque_Sum_n0_ok) (fun z11 => ?_)
  refine o_move rfl rfl (guard_some rfl rfl rfl) (look_tmp rfl) (fun _ => rfl) ?_
  refine o_neq rfl rfl (guard_some rfl rfl rfl) (look_tmp rfl) (look_tmp rfl) (fun h => h) (fun h => h) ?_
  refine o_pick rfl rfl guard_none (look_tmp rfl) look_bool (look_tmp rfl) (fun _ => rfl) (fun _ _ => rfl) (fun h1 h2 => pick_f ((fun _ => rfl) h1) h2) ?_
  refine o_move rfl rfl guard_none (look_tmp rfl) (fun _ => rfl) ?_
  refine o_move rfl rfl (guard_some rfl rfl rfl) (look_tmp rfl) (fun _ => rfl) ?_
  refine o_move rfl rfl (guard_some rfl rfl rfl) (look_tmp rfl) (fun _ => rfl) ?_
  refine o_llen Try.underlying54 rfl rfl (guard_some rfl rfl rfl) (look_tmp rfl) (fun h => h) ?_
  refine o_gtr rfl rfl (guard_some rfl rfl rfl) (look_tmp rfl) (look_int rfl) (fun h => h) (fun _ => rfl) ?_
  refine o_bneq Try.underlying4 rfl rfl (guard_some rfl rfl rfl) (look_tmp rfl) (look_tmp rfl) (fun h => h) (fun h => h) ?_
  refine o_pick rfl rfl guard_none (look_tmp rfl) look_bool (look_tmp rfl) (fun _ => rfl) (fun _ _ => rfl) (fun h1 h2 => pick_f ((fun _ => rfl) h1) h2) ?_
  refine o_move rfl rfl guard_none (look_tmp rfl) (fun _ => rfl) ?_
  refine o_move rfl rfl (guard_some rfl rfl rfl) (look_tmp rfl) (fun _ => rfl) ?_
  refine o_move rfl rfl (guard_some rfl rfl rfl) (look_tmp rfl) (fun _ => rfl) ?_
  refine o_bneq Try.underlying4 rfl rfl (guard_some rfl rfl rfl) (look_tmp rfl) (look_tmp rfl) (fun h => h) (fun h => h) ?_
  refine o_pick rfl rfl guard_none (look_tmp rfl) look_bool (look_tmp rfl) (fun _ => rfl) (fun _ _ => rfl) (fun h1 h2 => pick_f ((fun _ => rfl) h1) h2) ?_
  refine o_end ?_
  refine den_cond (look_tmp rfl) ?_ ?_
  · refine den_seq ?_
    refine den_region rfl ?_
    refine o_assign rfl rfl guard_none look_bool (fun _ => rfl) ?_
    refine o_end ?_
    refine den_code_ret ?_
    refine dene_ret ?_
    exact dene_res (res1 rfl (rv_tmp rfl))
  · refine den_skip ?_
    refine den_seq ?_
    refine den_seq ?_
    refine den_region rfl ?_
    refine o_move rfl rfl guard_none (look_tmp rfl) (fun _ => rfl) ?_
    refine o_llen Try.underlying54 rfl rfl guard_none (look_tmp rfl) (fun _ => rfl) ?_
    refine o_eql rfl rfl guard_none (look_tmp rfl) (look_int rfl) (fun _ => rfl) (fun _ => rfl) ?_
    refine o_end ?_
    refine den_cond (look_tmp rfl) ?_ ?_
    · refine den_seq ?_
      refine den_region rfl ?_
      refine o_oloadi 2 rfl type60 foc_self rfl guard_none (look_tmp rfl) (fun _ => rfl) ?_
      refine o_build (R := T_deque_Cell_rep0) (f := T_deque_Cell_tup) (y := (⟨0, 0⟩ : T_deque_Cell)) shape60 rfl rfl rfl rfl guard_none (bld_zero (z_int rfl) (bld_zero (z_int rfl) (bld_nil))) ?_
      refine o_steql (e := T_deque_Cell_eqb) rfl (by kernel_rfl) eqok60 rfl guard_none (look_tmp rfl) (look_tmp rfl) (fun _ => rfl) (fun _ => rfl) ?_
      refine o_move rfl rfl guard_none (look_tmp rfl) (fun _ => rfl) ?_
      refine o_oloadi 1 rfl type60 foc_self rfl (guard_some rfl rfl rfl) (look_tmp rfl) (fun _ => rfl) ?_
      refine o_build (R := T_deque_Cell_rep0) (f := T_deque_Cell_tup) (y := (⟨0, 0⟩ : T_deque_Cell)) shape60 rfl rfl rfl rfl (guard_some rfl rfl rfl) (bld_zero (z_int rfl) (bld_zero (z_int rfl) (bld_nil))) ?_
      refine o_steql (e := T_deque_Cell_eqb) rfl (by kernel_rfl) eqok60 rfl (guard_some rfl rfl rfl) (look_tmp rfl) (look_tmp rfl) (fun h => h) (fun h => h) ?_
      refine o_pick rfl rfl guard_none (look_tmp rfl) (look_tmp rfl) look_bool (fun _ => rfl) (fun h1 h2 => pick_t ((fun _ => rfl) h1) h2) (fun _ _ => rfl) ?_
      refine o_assign rfl rfl guard_none (look_tmp rfl) (fun _ => rfl) ?_
      refine o_lt (fun z12 => ?_)
      refine o_end ?_
      refine den_code_ret ?_
      refine dene_ret ?_
      exact dene_res (res1 rfl (rv_tmp rfl))
    · refine den_skip ?_
      refine den_seq ?_
      refine den_open (fun z13 h_z13 => ?_)
      refine den_open (fun z14 h_z14 => ?_)
      refine den_draw [(75, ⟨T_deque_Cell_rep, z2.1, true⟩), (76, ⟨(T_deque_Cell_rep).slice, m_1, true⟩), (77, ⟨(T_deque_Cell_rep).ptrTo, z13, true⟩), (78, ⟨T_deque_Cell_rep, z13, true⟩), (79, ⟨Rep.bool, (T_deque_Cell_eqb z2.1 z13), true⟩), (80, ⟨Rep.bool, (T_deque_Cell_eqb z2.1 z13), true⟩), (81, ⟨T_deque_Cell_rep, z4.1, (true && ((T_deque_Cell_eqb z2.1 z13) == true))⟩), (82, ⟨(T_deque_Cell_rep).slice, m_1, (true && ((T_deque_Cell_eqb z2.1 z13) == true))⟩), (83, ⟨(T_deque_Cell_rep).slice, m_1, (true && ((T_deque_Cell_eqb z2.1 z13) == true))⟩), (84, ⟨Rep.int .i64, (m_1.length : Int), (true && ((T_deque_Cell_eqb z2.1 z13) == true))⟩), (85, ⟨Rep.int .i64, IntKind.i64.wrap ((m_1.length : Int) - 1), (true && ((T_deque_Cell_eqb z2.1 z13) == true))⟩), (86, ⟨(T_deque_Cell_rep).ptrTo, z14, (true && ((T_deque_Cell_eqb z2.1 z13) == true))⟩), (87, ⟨T_deque_Cell_rep, z14, (true && ((T_deque_Cell_eqb z2.1 z13) == true))⟩), (88, ⟨Rep.bool, (T_deque_Cell_eqb z4.1 z14), (true && ((T_deque_Cell_eqb z2.1 z13) == true))⟩), (89, ⟨Rep.bool, cond (T_deque_Cell_eqb z2.1 z13) (T_deque_Cell_eqb z4.1 z14) false, true⟩), (4, ⟨Rep.bool, cond (T_deque_Cell_eqb z2.1 z13) (T_deque_Cell_eqb z4.1 z14) false, true⟩)] mixed rfl rfl ⟨?_, ?_, ?_, ?_, ?_, ?_, ?_, ?_, ?_, ?_, ?_, ?_, ?_, ?_, ?_, ?_, trivial⟩ ?_
      · intro S hc hk hp
        refine o_oloadi 2 rfl type60 foc_self rfl guard_none (look_o rfl rfl) (fun _ => rfl) ?_
        exact d_end rfl rfl rfl
      · intro S hc hk hp
        refine o_move rfl rfl guard_none (look_o rfl rfl) (fun _ => rfl) ?_
        exact d_end rfl rfl rfl
      · intro S hc hk hp
        refine o_from (bind_eqO h_z13) ?_
        refine o_iaddr Try.underlying54 type60 rfl rfl (look_d rfl rfl (pr hp 0 rfl rfl)) (look_int rfl) rfl rfl (o_eqO ?_)
        exact d_end rfl rfl rfl
      · intro S hc hk hp
        refine o_load type60 rfl rfl guard_none (look_d rfl rfl (pr hp 0 rfl rfl)) (fun _ => rfl) ?_
        exact d_end rfl rfl rfl
      · intro S hc hk hp
        refine o_steql (e := T_deque_Cell_eqb) rfl (by kernel_rfl) eqok60 rfl guard_none (look_d rfl rfl (pr hp 0 rfl rfl)) (look_d rfl rfl (pr hp 1 rfl rfl)) (fun _ => rfl) (fun _ => rfl) ?_
        exact d_end rfl rfl rfl
      · intro S hc hk hp
        refine o_move rfl rfl guard_none (look_d rfl rfl (pr hp 0 rfl rfl)) (fun _ => rfl) ?_
        exact d_end rfl rfl rfl
      · intro S hc hk hp
        refine o_oloadi 1 rfl type60 foc_self rfl (guard_d rfl rfl rfl rfl (pr hp 0 rfl rfl)) (look_o rfl rfl) (fun _ => rfl) ?_
        exact d_end rfl rfl rfl
      · intro S hc hk hp
        refine o_move rfl rfl (guard_d rfl rfl rfl rfl (pr hp 0 rfl rfl)) (look_o rfl rfl) (fun _ => rfl) ?_
        exact d_end rfl rfl rfl
      · intro S hc hk hp
        refine o_move rfl rfl (guard_d rfl rfl rfl rfl (pr hp 0 rfl rfl)) (look_o rfl rfl) (fun _ => rfl) ?_
        exact d_end rfl rfl rfl
      · intro S hc hk hp
        refine o_llen Try.underlying54 rfl rfl (guard_d rfl rfl rfl rfl (pr hp 1 rfl rfl)) (look_d rfl rfl (pr hp 0 rfl rfl)) (fun h => h) ?_
        exact d_end rfl rfl rfl
      · intro S hc hk hp
        refine o_sub rfl rfl (guard_d rfl rfl rfl rfl (pr hp 1 rfl rfl)) (look_d rfl rfl (pr hp 0 rfl rfl)) (look_int rfl) (fun h => h) (fun _ => rfl) ?_
        exact d_end rfl rfl rfl
      · intro S hc hk hp
        refine o_from (bind_eqO h_z14) ?_
        refine o_iaddrg Try.underlying54 type60 rfl rfl (guard_d rfl rfl rfl rfl (pr hp 2 rfl rfl)) (look_d rfl rfl (pr hp 0 rfl rfl)) (look_d rfl rfl (pr hp 1 rfl rfl)) (fun h => h) (fun h => h) (o_eqO ?_)
        exact d_end rfl rfl rfl
      · intro S hc hk hp
        refine o_load type60 rfl rfl (guard_d rfl rfl rfl rfl (pr hp 1 rfl rfl)) (look_d rfl rfl (pr hp 0 rfl rfl)) (fun h => h) ?_
        exact d_end rfl rfl rfl
      · intro S hc hk hp
        refine o_steql (e := T_deque_Cell_eqb) rfl (by kernel_rfl) eqok60 rfl (guard_d rfl rfl rfl rfl (pr hp 2 rfl rfl)) (look_d rfl rfl (pr hp 0 rfl rfl)) (look_d rfl rfl (pr hp 1 rfl rfl)) (fun h => h) (fun h => h) ?_
        exact d_end rfl rfl rfl
      · intro S hc hk hp
        refine o_pick rfl rfl guard_none (look_d rfl rfl (pr hp 0 rfl rfl)) (look_d rfl rfl (pr hp 1 rfl rfl)) look_bool (fun _ => rfl) (fun h1 h2 => pick_t ((fun _ => rfl) h1) h2) (fun _ _ => rfl) ?_
        exact d_end rfl rfl rfl
      · intro S hc hk hp
        refine o_assign rfl rfl guard_none (look_d rfl rfl (pr hp 0 rfl rfl)) (fun _ => rfl) ?_
        exact d_end rfl rfl rfl
      refine den_code_ret ?_
      exact dene_res (res1 rfl (rv_tmp rfl))

theorem deque_Deque_Clone_n0_ok   : FunOk Try.prog 24 [⟨.nilp, (), true⟩] (deque_Deque_Clone_n0) (Rep.nilp) := by
  refine fun_ok Try.func24 rfl Try.ntmps24 rfl (all_cons rfl all_nil) (fun w0 ok0 => ?_)
  refine den_seq ?_
  refine den_region rfl ?_
  refine o_assign rfl rfl guard_none look_nilp (fun _ => rfl) ?_
  refine o_end ?_
  refine den_seq ?_
  refine den_seq ?_
  refine den_region rfl ?_
  refine o_move rfl rfl guard_none (look_tmp rfl) (fun _ => rfl) ?_
  refine o_neql Try.underlying45 rfl rfl guard_none (look_tmp rfl) (fun _ => rfl) ?_
  refine o_end ?_
  refine den_condt (look_tmp rfl) ?_
  refine den_seq ?_
  refine den_region rfl ?_
  refine o_assign rfl rfl guard_none look_nilp (fun _ => rfl) ?_
  refine o_end ?_
  refine den_code_ret ?_
  refine dene_ret ?_
  exact dene_res (res1 rfl (rv_tmp rfl))

theorem law15_DequeNobody_ok  (a_0 : Int) : FunOk Try.prog 7 [⟨Rep.int .i64, a_0, true⟩] (law15_DequeNobody a_0) (Rep.bool) := by
  refine fun_ok Try.func7 rfl Try.ntmps7 rfl (all_cons rfl all_nil) (fun w0 ok0 => ?_)
  refine den_seq ?_
  refine den_region rfl ?_
  refine o_assign rfl rfl guard_none look_bool (fun _ => rfl) ?_
  refine o_end ?_
  refine den_seq ?_
  refine den_seq ?_
  refine den_region rfl ?_
  refine o_call rfl rfl rfl callable19 (looks_nil) (law15_alive_ok) (fun z1 => ?_)
  refine o_not rfl rfl guard_none (look_tmp rfl) (fun _ => rfl) ?_
  refine o_end ?_
  refine den_cond (look_tmp rfl) ?_ ?_
  · refine den_seq ?_
    refine den_region rfl ?_
    refine o_assign rfl rfl guard_none look_bool (fun _ => rfl) ?_
    refine o_end ?_
    refine den_code_ret ?_
    refine dene_ret ?_
    exact dene_res (res1 rfl (rv_tmp rfl))
  · refine den_skip ?_
    refine den_seq ?_
    refine den_region rfl ?_
    refine o_assign rfl rfl guard_none look_nilp (fun _ => rfl) ?_
    refine o_end ?_
    refine den_seq ?_
    refine den_region rfl ?_
    refine o_move rfl rfl guard_none (look_tmp rfl) (fun _ => rfl) ?_
    refine o_call rfl rfl rfl callable20 (looks_cons (look_tmp rfl) (fun _ => rfl) (looks_nil)) (deque_Deque_Clear_n0_ok) (fun z2 => ?_)
    refine o_end ?_
    refine den_seq ?_
    refine den_region rfl ?_
    refine o_move rfl rfl guard_none (look_tmp rfl) (fun _ => rfl) ?_
    refine o_move rfl rfl guard_none (look_tmp rfl) (fun _ => rfl) ?_
    refine o_call rfl rfl rfl callable21 (looks_cons (look_tmp rfl) (fun _ => rfl) (looks_cons (look_tmp rfl) (fun _ => rfl) (looks_nil))) (deque_Deque_Push_n0_ok _) (fun z3 => ?_)
    refine o_not rfl rfl guard_none (look_tmp rfl) (fun _ => rfl) ?_
    refine o_move rfl rfl guard_none (look_tmp rfl) (fun _ => rfl) ?_
    refine o_move rfl rfl (guard_some rfl rfl rfl) (look_tmp rfl) (fun _ => rfl) ?_
    refine o_move rfl rfl (guard_some rfl rfl rfl) (look_tmp rfl) (fun _ => rfl) ?_
    refine o_callg rfl rfl rfl (guard_some rfl rfl rfl) callable22 (looks_cons (look_tmp rfl) (fun h => h) (looks_cons (look_tmp rfl) (fun h => h) (looks_nil))) (deque_Deque_Prune_n0_ok _) (fun z4 => ?_)
    refine o_eql rfl rfl (guard_some rfl rfl rfl) (look_tmp rfl) (look_int rfl) (fun h => h) (fun _ => rfl) ?_
    refine o_pick rfl rfl guard_none (look_tmp rfl) (look_tmp rfl) look_bool (fun _ => rfl) (fun h1 h2 => pick_t ((fun _ => rfl) h1) h2) (fun _ _ => rfl) ?_
    refine o_move rfl rfl guard_none (look_tmp rfl) (fun _ => rfl) ?_
    refine o_move rfl rfl (guard_some rfl rfl rfl) (look_tmp rfl) (fun _ => rfl) ?_
    refine o_callg rfl rfl rfl (guard_some rfl rfl rfl) callable23 (looks_cons (look_tmp rfl) (fun h => h) (looks_cons (look_nild (R := T_deque_Cell_rep)) (fun _ => rfl) (looks_nil))) (law15_like_n0_ok _) (fun z5 => ?_)
    refine o_pick rfl rfl guard_none (look_tmp rfl) (look_tmp rfl) look_bool (fun _ => rfl) (fun h1 h2 => pick_t ((fun _ => rfl) h1) h2) (fun _ _ => rfl) ?_
    refine o_move rfl rfl guard_none (look_tmp rfl) (fun _ => rfl) ?_
    refine o_move rfl rfl (guard_some rfl rfl rfl) (look_tmp rfl) (fun _ => rfl) ?_
    refine o_callg rfl rfl rfl (guard_some rfl rfl rfl) callable24 (looks_cons (look_tmp rfl) (fun h => h) (looks_nil)) (deque_Deque_Clone_n0_ok) (fun z6 => ?_)
    refine o_neql Try.underlying45 rfl rfl (guard_some rfl rfl rfl) (look_tmp rfl) (fun h => h) ?_
    refine o_pick rfl rfl guard_none (look_tmp rfl) (look_tmp rfl) look_bool (fun _ => rfl) (fun h1 h2 => pick_t ((fun _ => rfl) h1) h2) (fun _ _ => rfl) ?_
    refine o_assign rfl rfl guard_none (look_tmp rfl) (fun _ => rfl) ?_
    refine o_lt (fun z7 => ?_)
    refine o_end ?_
    refine den_code_ret ?_
    exact dene_res (res1 rfl (rv_tmp rfl))

end Go.Proofs.Ytbbjdhmdnggnoaa.M
