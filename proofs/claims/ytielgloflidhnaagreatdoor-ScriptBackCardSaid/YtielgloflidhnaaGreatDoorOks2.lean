/- That the Go functions answer as the plain ones: written by gen2.py. -/
import Derived.Test.YtielgloflidhnaaGreatDoorOks1
namespace Go.Proofs.YtielgloflidhnaaGreatDoor.M
open Go.Eng Go
set_option linter.unusedVariables false

set_option maxHeartbeats 1000000 in
theorem script_read_ok  (s_0 : Bytes) : FunOkI Tryz.prog 17 [⟨Rep.str, s_0, true⟩] [.obj false 0 0 (gfact 0 Rep.intE ()) (), .obj false 0 0 (gfact 1 Rep.ifcE ()) (), .obj false 0 0 (gfact 2 Rep.ifcE ()) ()] (script_read s_0) (T_api_Event_rep) (fun (α : Unit) (y : T_api_Event) => y) (fun α y => []) := by
  refine fun_okI Tryz.func17 rfl Tryz.ntmps17 rfl (all_cons rfl all_nil) (fun w0 ok0 M => ?_)
  refine den_seq ?_
  refine den_region rfl ?_
  refine o_alloc zero30 rfl rfl (fun z1 => ?_)
  refine o_end ?_
  refine den_seq ?_
  refine den_region rfl ?_
  refine o_move rfl rfl guard_none (look_tmp rfl) (fun _ => rfl) ?_
  refine o_weak (H' := [] ++ ([.obj false 0 0 (gfact 0 Rep.intE ()) ()] ++ [.obj true z1 0 (.dat T_api_Event_rep) T_api_Event_zero, .obj false 0 0 (gfact 1 Rep.ifcE ()) (), .obj false 0 0 (gfact 2 Rep.ifcE ()) ()])) (sub_pick [1, 0, 2, 3] rfl rfl) ?_
  refine o_callU rfl rfl rfl rfl rfl callable30 (looks_cons (look_tmp rfl) (fun _ => rfl) (looks_cons (look_str (l := [32]) rfl (by decide)) (fun _ => rfl) (looks_cons (look_int rfl) (fun _ => rfl) (looks_nil)))) (.cons .nil) (strings_SplitN_ok s_0 ([32] : Bytes) 6) (fun _ _ => wr_n) (fun z3α z2 => ?_)
  refine o_weak (H' := [.obj false 0 0 (gfact 0 Rep.intE ()) (), .obj true z1 0 (.dat T_api_Event_rep) T_api_Event_zero, .obj false 0 0 (gfact 1 Rep.ifcE ()) (), .obj false 0 0 (gfact 2 Rep.ifcE ()) ()]) (sub_pick [0, 1, 2, 3] rfl rfl) ?_
  refine o_assign rfl rfl guard_none (look_tmp rfl) (fun _ => rfl) ?_
  refine o_end ?_
  refine den_seq ?_
  refine den_region rfl ?_
  refine o_move rfl rfl guard_none (look_tmp rfl) (fun _ => rfl) ?_
  refine o_iaddr Tryz.underlying26 type9 rfl rfl (look_tmp rfl) (look_int rfl) rfl rfl (fun z4 => ?_)
  refine o_load type9 rfl rfl guard_none (look_tmp rfl) (fun _ => rfl) ?_
  refine o_call rfl rfl rfl callable31 (looks_cons (look_tmp rfl) (fun _ => rfl) (looks_nil)) (script_number_ok _) (fun z5 => ?_)
  refine o_build (R := T_api_Event_rep0) (f := T_api_Event_tup) (y := (⟨z5, 0, 0, [], [], [], T_api_Value_zero⟩ : T_api_Event)) shape30 rfl rfl rfl rfl guard_none (bld_part rfl rfl (look_tmp rfl) (fun _ => rfl) (bld_zero (z_int rfl) (bld_zero (z_int rfl) (bld_zero (z_str rfl) (bld_zero (z_str rfl) (bld_zero (z_str rfl) (bld_zero (z_iso (z_cons (z_int rfl) (z_cons (z_int rfl) (z_cons (z_str rfl) (z_cons (z_slice rfl) z_nil0)))) rfl) (bld_nil)))))))) ?_
  refine o_alloc zero30 rfl rfl (fun z6 => ?_)
  refine o_ostore type30 foc_self guard_none (look_tmp rfl) (fun _ => rfl) (look_tmp rfl) (fun _ => rfl) ?_
  refine o_end ?_
  refine den_seq ?_
  refine den_region rfl ?_
  refine o_assign rfl rfl guard_none (look_str (l := []) rfl (by decide)) (fun _ => rfl) ?_
  refine o_end ?_
  refine den_seq ?_
  refine den_seq ?_
  refine den_region rfl ?_
  refine o_move rfl rfl guard_none (look_tmp rfl) (fun _ => rfl) ?_
  refine o_llen Tryz.underlying26 rfl rfl guard_none (look_tmp rfl) (fun _ => rfl) ?_
  refine o_gtr rfl rfl guard_none (look_tmp rfl) (look_int rfl) (fun _ => rfl) (fun _ => rfl) ?_
  refine o_end ?_
  refine den_bind (fun z7 => [(5, ⟨Rep.str, z7, true⟩), (2, ⟨Rep.addr, (z1, 0), true⟩), (3, ⟨Rep.str.slice, z2, true⟩), (4, ⟨Rep.addr, (z6, 0), true⟩)]) (fun z7 => [.obj true z6 0 (.dat T_api_Event_rep) (⟨z5, 0, 0, [], [], [], T_api_Value_zero⟩ : T_api_Event), .obj false 0 0 (gfact 0 Rep.intE ()) (), .obj true z1 0 (.dat T_api_Event_rep) T_api_Event_zero, .obj false 0 0 (gfact 1 Rep.ifcE ()) (), .obj false 0 0 (gfact 2 Rep.ifcE ()) ()]) ?_ (fun z7 => ?_)
  · refine den_cond (look_tmp rfl) ?_ ?_
    · refine den_region rfl ?_
      refine o_move rfl rfl guard_none (look_tmp rfl) (fun _ => rfl) ?_
      refine o_iaddr Tryz.underlying26 type9 rfl rfl (look_tmp rfl) (look_int rfl) rfl rfl (fun z34 => ?_)
      refine o_load type9 rfl rfl guard_none (look_tmp rfl) (fun _ => rfl) ?_
      refine o_assign rfl rfl guard_none (look_tmp rfl) (fun _ => rfl) ?_
      refine o_end ?_
      refine den_end ((sub_env (sube_cons rfl (sube_cons rfl (sube_cons rfl (sube_cons rfl (sube_nil)))))))
    · refine den_skip ?_
      refine den_end ((sub_env (sube_cons rfl (sube_cons rfl (sube_cons rfl (sube_cons rfl (sube_nil)))))))
  refine den_seq ?_
  refine den_block ?_
  refine den_seq ?_
  refine den_region rfl ?_
  refine o_move rfl rfl guard_none (look_tmp rfl) (fun _ => rfl) ?_
  refine o_seql rfl rfl guard_none (look_tmp rfl) (look_str (l := [116, 114, 121]) rfl (by decide)) (fun _ => rfl) (fun _ => rfl) ?_
  refine o_move rfl rfl guard_none (look_tmp rfl) (fun _ => rfl) ?_
  refine o_move rfl rfl (guard_some rfl rfl rfl) (look_tmp rfl) (fun _ => rfl) ?_
  refine o_llen Tryz.underlying26 rfl rfl (guard_some rfl rfl rfl) (look_tmp rfl) (fun h => h) ?_
  refine o_eql rfl rfl (guard_some rfl rfl rfl) (look_tmp rfl) (look_int rfl) (fun h => h) (fun _ => rfl) ?_
  refine o_pick rfl rfl guard_none (look_tmp rfl) (look_tmp rfl) look_bool (fun _ => rfl) (fun h1 h2 => pick_t ((fun _ => rfl) h1) h2) (fun _ _ => rfl) ?_
  refine o_assign rfl rfl guard_none (look_tmp rfl) (fun _ => rfl) ?_
  refine o_lt (fun z8 => ?_)
  refine o_end ?_
  refine den_cond (look_tmp rfl) ?_ ?_
  · refine den_open (fun z9 h_z9 => ?_)
    refine den_open (fun z10 h_z10 => ?_)
    refine den_open (fun z11 h_z11 => ?_)
    refine den_open (fun z12 h_z12 => ?_)
    refine den_open (fun z13 h_z13 => ?_)
    have hB : ∀ (S : Nat → Bool) (b14 b16 b18 b20 b22 : Bool), S 14 = b14 → S 16 = b16 → S 18 = b18 → S 20 = b20 → S 22 = b22 → ((fun S => [.obj true z6 0 (.dat T_api_Event_rep) (cond (S 22) ({ ({ ({ ({ ({ (⟨z5, 0, 0, [], [], [], T_api_Value_zero⟩ : T_api_Event) with Kind := 1 }) with Id := z10 }) with Subject := z11 }) with Object := z12 }) with Name := z13 }) (cond (S 20) ({ ({ ({ ({ (⟨z5, 0, 0, [], [], [], T_api_Value_zero⟩ : T_api_Event) with Kind := 1 }) with Id := z10 }) with Subject := z11 }) with Object := z12 }) (cond (S 18) ({ ({ ({ (⟨z5, 0, 0, [], [], [], T_api_Value_zero⟩ : T_api_Event) with Kind := 1 }) with Id := z10 }) with Subject := z11 }) (cond (S 16) ({ ({ (⟨z5, 0, 0, [], [], [], T_api_Value_zero⟩ : T_api_Event) with Kind := 1 }) with Id := z10 }) (cond (S 14) ({ (⟨z5, 0, 0, [], [], [], T_api_Value_zero⟩ : T_api_Event) with Kind := 1 }) (⟨z5, 0, 0, [], [], [], T_api_Value_zero⟩ : T_api_Event)))))), .obj false 0 0 (gfact 0 Rep.intE ()) (), .obj true z1 0 (.dat T_api_Event_rep) T_api_Event_zero, .obj false 0 0 (gfact 1 Rep.ifcE ()) (), .obj false 0 0 (gfact 2 Rep.ifcE ()) ()] : (Nat → Bool) → List Go.Eng.Item) S) = ([.obj true z6 0 (.dat T_api_Event_rep) (cond b22 ({ ({ ({ ({ ({ (⟨z5, 0, 0, [], [], [], T_api_Value_zero⟩ : T_api_Event) with Kind := 1 }) with Id := z10 }) with Subject := z11 }) with Object := z12 }) with Name := z13 }) (cond b20 ({ ({ ({ ({ (⟨z5, 0, 0, [], [], [], T_api_Value_zero⟩ : T_api_Event) with Kind := 1 }) with Id := z10 }) with Subject := z11 }) with Object := z12 }) (cond b18 ({ ({ ({ (⟨z5, 0, 0, [], [], [], T_api_Value_zero⟩ : T_api_Event) with Kind := 1 }) with Id := z10 }) with Subject := z11 }) (cond b16 ({ ({ (⟨z5, 0, 0, [], [], [], T_api_Value_zero⟩ : T_api_Event) with Kind := 1 }) with Id := z10 }) (cond b14 ({ (⟨z5, 0, 0, [], [], [], T_api_Value_zero⟩ : T_api_Event) with Kind := 1 }) (⟨z5, 0, 0, [], [], [], T_api_Value_zero⟩ : T_api_Event)))))), .obj false 0 0 (gfact 0 Rep.intE ()) (), .obj true z1 0 (.dat T_api_Event_rep) T_api_Event_zero, .obj false 0 0 (gfact 1 Rep.ifcE ()) (), .obj false 0 0 (gfact 2 Rep.ifcE ()) ()] : List Go.Eng.Item) := fun S b14 b16 b18 b20 b22 h14 h16 h18 h20 h22 => by subst h14; subst h16; subst h18; subst h20; subst h22; rfl
    refine den_drawH (H' := [.obj true z6 0 (.dat T_api_Event_rep) ({ ({ ({ ({ ({ (⟨z5, 0, 0, [], [], [], T_api_Value_zero⟩ : T_api_Event) with Kind := 1 }) with Id := z10 }) with Subject := z11 }) with Object := z12 }) with Name := z13 }), .obj false 0 0 (gfact 0 Rep.intE ()) (), .obj true z1 0 (.dat T_api_Event_rep) T_api_Event_zero, .obj false 0 0 (gfact 1 Rep.ifcE ()) (), .obj false 0 0 (gfact 2 Rep.ifcE ()) ()]) [(27, ⟨Rep.str.slice, z2, true⟩), (28, ⟨(Rep.str).ptrTo, z9, true⟩), (29, ⟨Rep.str, z9, true⟩), (30, ⟨Rep.int .i64, z10, true⟩), (31, ⟨Rep.str.slice, z2, true⟩), (32, ⟨(Rep.str).ptrTo, z11, true⟩), (33, ⟨Rep.str, z11, true⟩), (34, ⟨Rep.str.slice, z2, true⟩), (35, ⟨(Rep.str).ptrTo, z12, true⟩), (36, ⟨Rep.str, z12, true⟩), (37, ⟨Rep.str.slice, z2, true⟩), (38, ⟨(Rep.str).ptrTo, z13, true⟩), (39, ⟨Rep.str, z13, true⟩), (40, ⟨Rep.addr, (z6, 0 + 1), true⟩), (123, ⟨.any, (), false⟩), (41, ⟨Rep.addr, (z6, 0 + 2), true⟩), (125, ⟨.any, (), false⟩), (42, ⟨Rep.addr, (z6, 0 + 3), true⟩), (127, ⟨.any, (), false⟩), (43, ⟨Rep.addr, (z6, 0 + 4), true⟩), (129, ⟨.any, (), false⟩), (44, ⟨Rep.addr, (z6, 0 + 5), true⟩), (131, ⟨.any, (), false⟩)] (fun S => [.obj true z6 0 (.dat T_api_Event_rep) (cond (S 22) ({ ({ ({ ({ ({ (⟨z5, 0, 0, [], [], [], T_api_Value_zero⟩ : T_api_Event) with Kind := 1 }) with Id := z10 }) with Subject := z11 }) with Object := z12 }) with Name := z13 }) (cond (S 20) ({ ({ ({ ({ (⟨z5, 0, 0, [], [], [], T_api_Value_zero⟩ : T_api_Event) with Kind := 1 }) with Id := z10 }) with Subject := z11 }) with Object := z12 }) (cond (S 18) ({ ({ ({ (⟨z5, 0, 0, [], [], [], T_api_Value_zero⟩ : T_api_Event) with Kind := 1 }) with Id := z10 }) with Subject := z11 }) (cond (S 16) ({ ({ (⟨z5, 0, 0, [], [], [], T_api_Value_zero⟩ : T_api_Event) with Kind := 1 }) with Id := z10 }) (cond (S 14) ({ (⟨z5, 0, 0, [], [], [], T_api_Value_zero⟩ : T_api_Event) with Kind := 1 }) (⟨z5, 0, 0, [], [], [], T_api_Value_zero⟩ : T_api_Event)))))), .obj false 0 0 (gfact 0 Rep.intE ()) (), .obj true z1 0 (.dat T_api_Event_rep) T_api_Event_zero, .obj false 0 0 (gfact 1 Rep.ifcE ()) (), .obj false 0 0 (gfact 2 Rep.ifcE ()) ()]) mixed rfl rfl rfl (fun S hS => hB S true true true true true (hS 14 (by decide)) (hS 16 (by decide)) (hS 18 (by decide)) (hS 20 (by decide)) (hS 22 (by decide))) ⟨?_, ?_, ?_, ?_, ?_, ?_, ?_, ?_, ?_, ?_, ?_, ?_, ?_, ?_, ?_, ?_, ?_, ?_, ?_, ?_, ?_, ?_, ?_, trivial⟩ ?_
    · intro S hc hk hp
      refine o_move rfl rfl guard_none (look_o rfl rfl) (fun _ => rfl) ?_
      exact h_end rfl rfl rfl (hB (fun k => S k || Nat.beq k 0) (S 14) (S 16) (S 18) (S 20) (S 22) (or_ne rfl) (or_ne rfl) (or_ne rfl) (or_ne rfl) (or_ne rfl))
    · intro S hc hk hp
      refine o_from (bind_eqO h_z9) ?_
      refine o_iaddr Tryz.underlying26 type9 rfl rfl (look_d rfl rfl (pr hp 0 rfl rfl)) (look_int rfl) rfl rfl (o_eqO ?_)
      exact h_end rfl rfl rfl (hB (fun k => S k || Nat.beq k 1) (S 14) (S 16) (S 18) (S 20) (S 22) (or_ne rfl) (or_ne rfl) (or_ne rfl) (or_ne rfl) (or_ne rfl))
    · intro S hc hk hp
      refine o_load type9 rfl rfl guard_none (look_d rfl rfl (pr hp 0 rfl rfl)) (fun _ => rfl) ?_
      exact h_end rfl rfl rfl (hB (fun k => S k || Nat.beq k 2) (S 14) (S 16) (S 18) (S 20) (S 22) (or_ne rfl) (or_ne rfl) (or_ne rfl) (or_ne rfl) (or_ne rfl))
    · intro S hc hk hp
      refine o_from (bind_eqO h_z10) ?_
      refine o_call rfl rfl rfl callable31 (looks_cons (look_d rfl rfl (pr hp 0 rfl rfl)) (fun _ => rfl) (looks_nil)) (script_number_ok _) (o_eqO ?_)
      exact h_end rfl rfl rfl (hB (fun k => S k || Nat.beq k 3) (S 14) (S 16) (S 18) (S 20) (S 22) (or_ne rfl) (or_ne rfl) (or_ne rfl) (or_ne rfl) (or_ne rfl))
    · intro S hc hk hp
      refine o_move rfl rfl guard_none (look_o rfl rfl) (fun _ => rfl) ?_
      exact h_end rfl rfl rfl (hB (fun k => S k || Nat.beq k 4) (S 14) (S 16) (S 18) (S 20) (S 22) (or_ne rfl) (or_ne rfl) (or_ne rfl) (or_ne rfl) (or_ne rfl))
    · intro S hc hk hp
      refine o_from (bind_eqO h_z11) ?_
      refine o_iaddr Tryz.underlying26 type9 rfl rfl (look_d rfl rfl (pr hp 0 rfl rfl)) (look_int rfl) rfl rfl (o_eqO ?_)
      exact h_end rfl rfl rfl (hB (fun k => S k || Nat.beq k 5) (S 14) (S 16) (S 18) (S 20) (S 22) (or_ne rfl) (or_ne rfl) (or_ne rfl) (or_ne rfl) (or_ne rfl))
    · intro S hc hk hp
      refine o_load type9 rfl rfl guard_none (look_d rfl rfl (pr hp 0 rfl rfl)) (fun _ => rfl) ?_
      exact h_end rfl rfl rfl (hB (fun k => S k || Nat.beq k 6) (S 14) (S 16) (S 18) (S 20) (S 22) (or_ne rfl) (or_ne rfl) (or_ne rfl) (or_ne rfl) (or_ne rfl))
    · intro S hc hk hp
      refine o_move rfl rfl guard_none (look_o rfl rfl) (fun _ => rfl) ?_
      exact h_end rfl rfl rfl (hB (fun k => S k || Nat.beq k 7) (S 14) (S 16) (S 18) (S 20) (S 22) (or_ne rfl) (or_ne rfl) (or_ne rfl) (or_ne rfl) (or_ne rfl))
    · intro S hc hk hp
      refine o_from (bind_eqO h_z12) ?_
      refine o_iaddr Tryz.underlying26 type9 rfl rfl (look_d rfl rfl (pr hp 0 rfl rfl)) (look_int rfl) rfl rfl (o_eqO ?_)
      exact h_end rfl rfl rfl (hB (fun k => S k || Nat.beq k 8) (S 14) (S 16) (S 18) (S 20) (S 22) (or_ne rfl) (or_ne rfl) (or_ne rfl) (or_ne rfl) (or_ne rfl))
    · intro S hc hk hp
      refine o_load type9 rfl rfl guard_none (look_d rfl rfl (pr hp 0 rfl rfl)) (fun _ => rfl) ?_
      exact h_end rfl rfl rfl (hB (fun k => S k || Nat.beq k 9) (S 14) (S 16) (S 18) (S 20) (S 22) (or_ne rfl) (or_ne rfl) (or_ne rfl) (or_ne rfl) (or_ne rfl))
    · intro S hc hk hp
      refine o_move rfl rfl guard_none (look_o rfl rfl) (fun _ => rfl) ?_
      exact h_end rfl rfl rfl (hB (fun k => S k || Nat.beq k 10) (S 14) (S 16) (S 18) (S 20) (S 22) (or_ne rfl) (or_ne rfl) (or_ne rfl) (or_ne rfl) (or_ne rfl))
    · intro S hc hk hp
      refine o_from (bind_eqO h_z13) ?_
      refine o_iaddr Tryz.underlying26 type9 rfl rfl (look_d rfl rfl (pr hp 0 rfl rfl)) (look_int rfl) rfl rfl (o_eqO ?_)
      exact h_end rfl rfl rfl (hB (fun k => S k || Nat.beq k 11) (S 14) (S 16) (S 18) (S 20) (S 22) (or_ne rfl) (or_ne rfl) (or_ne rfl) (or_ne rfl) (or_ne rfl))
    · intro S hc hk hp
      refine o_load type9 rfl rfl guard_none (look_d rfl rfl (pr hp 0 rfl rfl)) (fun _ => rfl) ?_
      exact h_end rfl rfl rfl (hB (fun k => S k || Nat.beq k 12) (S 14) (S 16) (S 18) (S 20) (S 22) (or_ne rfl) (or_ne rfl) (or_ne rfl) (or_ne rfl) (or_ne rfl))
    · intro S hc hk hp
      refine o_faddr field30_1 type3 (by decide) rfl rfl guard_none (look_o rfl rfl) (fun _ => rfl) ?_
      exact h_end rfl rfl rfl (hB (fun k => S k || Nat.beq k 13) (S 14) (S 16) (S 18) (S 20) (S 22) (or_ne rfl) (or_ne rfl) (or_ne rfl) (or_ne rfl) (or_ne rfl))
    · intro S hc hk hp
      have e16 : S 16 = false := (not_yet (j := 16) (q := 2) hc hk rfl rfl rfl rfl)
      have e18 : S 18 = false := (not_yet (j := 18) (q := 17) hc hk rfl rfl rfl rfl)
      have e20 : S 20 = false := (not_yet (j := 20) (q := 17) hc hk rfl rfl rfl rfl)
      have e22 : S 22 = false := (not_yet (j := 22) (q := 17) hc hk rfl rfl rfl rfl)
      refine eq_H (H' := [.obj true z6 0 (.dat T_api_Event_rep) (⟨z5, 0, 0, [], [], [], T_api_Value_zero⟩ : T_api_Event), .obj false 0 0 (gfact 0 Rep.intE ()) (), .obj true z1 0 (.dat T_api_Event_rep) T_api_Event_zero, .obj false 0 0 (gfact 1 Rep.ifcE ()) (), .obj false 0 0 (gfact 2 Rep.ifcE ()) ()]) (hB S false false false false false hk e16 e18 e20 e22) ?_
      refine o_ostore type3 T_api_Event_foc1 guard_none (look_d rfl rfl (pr hp 0 rfl rfl)) (fun _ => rfl) (look_int rfl) (fun _ => rfl) ?_
      refine o_weak (H' := [.obj true z6 0 (.dat T_api_Event_rep) ({ (⟨z5, 0, 0, [], [], [], T_api_Value_zero⟩ : T_api_Event) with Kind := 1 }), .obj false 0 0 (gfact 0 Rep.intE ()) (), .obj true z1 0 (.dat T_api_Event_rep) T_api_Event_zero, .obj false 0 0 (gfact 1 Rep.ifcE ()) (), .obj false 0 0 (gfact 2 Rep.ifcE ()) ()]) (sub_pick [0, 1, 2, 3, 4] rfl rfl) ?_
      refine h_none (n := 109) (d := 123) rfl rfl ?_
      exact h_end rfl rfl rfl (hB (fun k => S k || Nat.beq k 14) true false false false false (or_i rfl) (or_f e16 rfl) (or_f e18 rfl) (or_f e20 rfl) (or_f e22 rfl))
    · intro S hc hk hp
      refine o_faddr field30_2 type3 (by decide) rfl rfl guard_none (look_o rfl rfl) (fun _ => rfl) ?_
      exact h_end rfl rfl rfl (hB (fun k => S k || Nat.beq k 15) (S 14) (S 16) (S 18) (S 20) (S 22) (or_ne rfl) (or_ne rfl) (or_ne rfl) (or_ne rfl) (or_ne rfl))
    · intro S hc hk hp
      have e14 : S 14 = true := (pr hp 2 rfl rfl)
      have e18 : S 18 = false := (not_yet (j := 18) (q := 2) hc hk rfl rfl rfl rfl)
      have e20 : S 20 = false := (not_yet (j := 20) (q := 19) hc hk rfl rfl rfl rfl)
      have e22 : S 22 = false := (not_yet (j := 22) (q := 19) hc hk rfl rfl rfl rfl)
      refine eq_H (H' := [.obj true z6 0 (.dat T_api_Event_rep) ({ (⟨z5, 0, 0, [], [], [], T_api_Value_zero⟩ : T_api_Event) with Kind := 1 }), .obj false 0 0 (gfact 0 Rep.intE ()) (), .obj true z1 0 (.dat T_api_Event_rep) T_api_Event_zero, .obj false 0 0 (gfact 1 Rep.ifcE ()) (), .obj false 0 0 (gfact 2 Rep.ifcE ()) ()]) (hB S true false false false false e14 hk e18 e20 e22) ?_
      refine o_ostore type3 T_api_Event_foc2 guard_none (look_d rfl rfl (pr hp 0 rfl rfl)) (fun _ => rfl) (look_d rfl rfl (pr hp 1 rfl rfl)) (fun _ => rfl) ?_
      refine o_weak (H' := [.obj true z6 0 (.dat T_api_Event_rep) ({ ({ (⟨z5, 0, 0, [], [], [], T_api_Value_zero⟩ : T_api_Event) with Kind := 1 }) with Id := z10 }), .obj false 0 0 (gfact 0 Rep.intE ()) (), .obj true z1 0 (.dat T_api_Event_rep) T_api_Event_zero, .obj false 0 0 (gfact 1 Rep.ifcE ()) (), .obj false 0 0 (gfact 2 Rep.ifcE ()) ()]) (sub_pick [0, 1, 2, 3, 4] rfl rfl) ?_
      refine h_none (n := 109) (d := 125) rfl rfl ?_
      exact h_end rfl rfl rfl (hB (fun k => S k || Nat.beq k 16) true true false false false (or_t e14) (or_i rfl) (or_f e18 rfl) (or_f e20 rfl) (or_f e22 rfl))
    · intro S hc hk hp
      refine o_faddr field30_3 type9 (by decide) rfl rfl guard_none (look_o rfl rfl) (fun _ => rfl) ?_
      exact h_end rfl rfl rfl (hB (fun k => S k || Nat.beq k 17) (S 14) (S 16) (S 18) (S 20) (S 22) (or_ne rfl) (or_ne rfl) (or_ne rfl) (or_ne rfl) (or_ne rfl))
    · intro S hc hk hp
      have e14 : S 14 = true := (pr hp 17 rfl rfl)
      have e16 : S 16 = true := (pr hp 2 rfl rfl)
      have e20 : S 20 = false := (not_yet (j := 20) (q := 2) hc hk rfl rfl rfl rfl)
      have e22 : S 22 = false := (not_yet (j := 22) (q := 21) hc hk rfl rfl rfl rfl)
      refine eq_H (H' := [.obj true z6 0 (.dat T_api_Event_rep) ({ ({ (⟨z5, 0, 0, [], [], [], T_api_Value_zero⟩ : T_api_Event) with Kind := 1 }) with Id := z10 }), .obj false 0 0 (gfact 0 Rep.intE ()) (), .obj true z1 0 (.dat T_api_Event_rep) T_api_Event_zero, .obj false 0 0 (gfact 1 Rep.ifcE ()) (), .obj false 0 0 (gfact 2 Rep.ifcE ()) ()]) (hB S true true false false false e14 e16 hk e20 e22) ?_
      refine o_ostore type9 T_api_Event_foc3 guard_none (look_d rfl rfl (pr hp 0 rfl rfl)) (fun _ => rfl) (look_d rfl rfl (pr hp 1 rfl rfl)) (fun _ => rfl) ?_
      refine o_weak (H' := [.obj true z6 0 (.dat T_api_Event_rep) ({ ({ ({ (⟨z5, 0, 0, [], [], [], T_api_Value_zero⟩ : T_api_Event) with Kind := 1 }) with Id := z10 }) with Subject := z11 }), .obj false 0 0 (gfact 0 Rep.intE ()) (), .obj true z1 0 (.dat T_api_Event_rep) T_api_Event_zero, .obj false 0 0 (gfact 1 Rep.ifcE ()) (), .obj false 0 0 (gfact 2 Rep.ifcE ()) ()]) (sub_pick [0, 1, 2, 3, 4] rfl rfl) ?_
      refine h_none (n := 109) (d := 127) rfl rfl ?_
      exact h_end rfl rfl rfl (hB (fun k => S k || Nat.beq k 18) true true true false false (or_t e14) (or_t e16) (or_i rfl) (or_f e20 rfl) (or_f e22 rfl))
    · intro S hc hk hp
      refine o_faddr field30_4 type9 (by decide) rfl rfl guard_none (look_o rfl rfl) (fun _ => rfl) ?_
      exact h_end rfl rfl rfl (hB (fun k => S k || Nat.beq k 19) (S 14) (S 16) (S 18) (S 20) (S 22) (or_ne rfl) (or_ne rfl) (or_ne rfl) (or_ne rfl) (or_ne rfl))
    · intro S hc hk hp
      have e14 : S 14 = true := (pr hp 17 rfl rfl)
      have e16 : S 16 = true := (pr hp 19 rfl rfl)
      have e18 : S 18 = true := (pr hp 2 rfl rfl)
      have e22 : S 22 = false := (not_yet (j := 22) (q := 2) hc hk rfl rfl rfl rfl)
      refine eq_H (H' := [.obj true z6 0 (.dat T_api_Event_rep) ({ ({ ({ (⟨z5, 0, 0, [], [], [], T_api_Value_zero⟩ : T_api_Event) with Kind := 1 }) with Id := z10 }) with Subject := z11 }), .obj false 0 0 (gfact 0 Rep.intE ()) (), .obj true z1 0 (.dat T_api_Event_rep) T_api_Event_zero, .obj false 0 0 (gfact 1 Rep.ifcE ()) (), .obj false 0 0 (gfact 2 Rep.ifcE ()) ()]) (hB S true true true false false e14 e16 e18 hk e22) ?_
      refine o_ostore type9 T_api_Event_foc4 guard_none (look_d rfl rfl (pr hp 0 rfl rfl)) (fun _ => rfl) (look_d rfl rfl (pr hp 1 rfl rfl)) (fun _ => rfl) ?_
      refine o_weak (H' := [.obj true z6 0 (.dat T_api_Event_rep) ({ ({ ({ ({ (⟨z5, 0, 0, [], [], [], T_api_Value_zero⟩ : T_api_Event) with Kind := 1 }) with Id := z10 }) with Subject := z11 }) with Object := z12 }), .obj false 0 0 (gfact 0 Rep.intE ()) (), .obj true z1 0 (.dat T_api_Event_rep) T_api_Event_zero, .obj false 0 0 (gfact 1 Rep.ifcE ()) (), .obj false 0 0 (gfact 2 Rep.ifcE ()) ()]) (sub_pick [0, 1, 2, 3, 4] rfl rfl) ?_
      refine h_none (n := 109) (d := 129) rfl rfl ?_
      exact h_end rfl rfl rfl (hB (fun k => S k || Nat.beq k 20) true true true true false (or_t e14) (or_t e16) (or_t e18) (or_i rfl) (or_f e22 rfl))
    · intro S hc hk hp
      refine o_faddr field30_5 type9 (by decide) rfl rfl guard_none (look_o rfl rfl) (fun _ => rfl) ?_
      exact h_end rfl rfl rfl (hB (fun k => S k || Nat.beq k 21) (S 14) (S 16) (S 18) (S 20) (S 22) (or_ne rfl) (or_ne rfl) (or_ne rfl) (or_ne rfl) (or_ne rfl))
    · intro S hc hk hp
      have e14 : S 14 = true := (pr hp 17 rfl rfl)
      have e16 : S 16 = true := (pr hp 19 rfl rfl)
      have e18 : S 18 = true := (pr hp 21 rfl rfl)
      have e20 : S 20 = true := (pr hp 2 rfl rfl)
      refine eq_H (H' := [.obj true z6 0 (.dat T_api_Event_rep) ({ ({ ({ ({ (⟨z5, 0, 0, [], [], [], T_api_Value_zero⟩ : T_api_Event) with Kind := 1 }) with Id := z10 }) with Subject := z11 }) with Object := z12 }), .obj false 0 0 (gfact 0 Rep.intE ()) (), .obj true z1 0 (.dat T_api_Event_rep) T_api_Event_zero, .obj false 0 0 (gfact 1 Rep.ifcE ()) (), .obj false 0 0 (gfact 2 Rep.ifcE ()) ()]) (hB S true true true true false e14 e16 e18 e20 hk) ?_
      refine o_ostore type9 T_api_Event_foc5 guard_none (look_d rfl rfl (pr hp 0 rfl rfl)) (fun _ => rfl) (look_d rfl rfl (pr hp 1 rfl rfl)) (fun _ => rfl) ?_
      refine o_weak (H' := [.obj true z6 0 (.dat T_api_Event_rep) ({ ({ ({ ({ ({ (⟨z5, 0, 0, [], [], [], T_api_Value_zero⟩ : T_api_Event) with Kind := 1 }) with Id := z10 }) with Subject := z11 }) with Object := z12 }) with Name := z13 }), .obj false 0 0 (gfact 0 Rep.intE ()) (), .obj true z1 0 (.dat T_api_Event_rep) T_api_Event_zero, .obj false 0 0 (gfact 1 Rep.ifcE ()) (), .obj false 0 0 (gfact 2 Rep.ifcE ()) ()]) (sub_pick [0, 1, 2, 3, 4] rfl rfl) ?_
      refine h_none (n := 109) (d := 131) rfl rfl ?_
      exact h_end rfl rfl rfl (hB (fun k => S k || Nat.beq k 22) true true true true true (or_t e14) (or_t e16) (or_t e18) (or_t e20) (or_i rfl))
    refine den_blkend ?_
    refine den_seq ?_
    refine den_region rfl ?_
    refine o_oloadi 0 rfl type30 foc_self rfl guard_none (look_tmp rfl) (fun _ => rfl) ?_
    refine o_weak (H' := [.obj true z1 0 (.dat T_api_Event_rep) T_api_Event_zero, .obj true z6 0 (.dat T_api_Event_rep) ({ ({ ({ ({ ({ (⟨z5, 0, 0, [], [], [], T_api_Value_zero⟩ : T_api_Event) with Kind := 1 }) with Id := z10 }) with Subject := z11 }) with Object := z12 }) with Name := z13 }), .obj false 0 0 (gfact 0 Rep.intE ()) (), .obj false 0 0 (gfact 1 Rep.ifcE ()) (), .obj false 0 0 (gfact 2 Rep.ifcE ()) ()]) (sub_pick [2, 0, 1, 3, 4] rfl rfl) ?_
    refine o_ostore type30 foc_self guard_none (look_tmp rfl) (fun _ => rfl) (look_tmp rfl) (fun _ => rfl) ?_
    refine o_lti (it := fun x => .obj true z1 0 (.dat T_api_Event_rep) x) (fun z14 => ?_)
    refine o_end ?_
    refine den_code_ret ?_
    exact dene_resI () (res1 rfl (rv_cell 0 type30 rfl rfl)) (fun _ _ _ k => ato_pick [] rfl rfl k)
  · refine den_seq ?_
    refine den_region rfl ?_
    refine o_move rfl rfl guard_none (look_tmp rfl) (fun _ => rfl) ?_
    refine o_seql rfl rfl guard_none (look_tmp rfl) (look_str (l := [117, 115, 101]) rfl (by decide)) (fun _ => rfl) (fun _ => rfl) ?_
    refine o_move rfl rfl guard_none (look_tmp rfl) (fun _ => rfl) ?_
    refine o_move rfl rfl (guard_some rfl rfl rfl) (look_tmp rfl) (fun _ => rfl) ?_
    refine o_llen Tryz.underlying26 rfl rfl (guard_some rfl rfl rfl) (look_tmp rfl) (fun h => h) ?_
    refine o_eql rfl rfl (guard_some rfl rfl rfl) (look_tmp rfl) (look_int rfl) (fun h => h) (fun _ => rfl) ?_
    refine o_pick rfl rfl guard_none (look_tmp rfl) (look_tmp rfl) look_bool (fun _ => rfl) (fun h1 h2 => pick_t ((fun _ => rfl) h1) h2) (fun _ _ => rfl) ?_
    refine o_assign rfl rfl guard_none (look_tmp rfl) (fun _ => rfl) ?_
    refine o_lt (fun z15 => ?_)
    refine o_end ?_
    refine den_cond (look_tmp rfl) ?_ ?_
    · refine den_open (fun z16 h_z16 => ?_)
      refine den_open (fun z17 h_z17 => ?_)
      refine den_open (fun z18 h_z18 => ?_)
      have hB : ∀ (S : Nat → Bool) (b8 b10 b12 : Bool), S 8 = b8 → S 10 = b10 → S 12 = b12 → ((fun S => [.obj true z6 0 (.dat T_api_Event_rep) (cond (S 12) ({ ({ ({ (⟨z5, 0, 0, [], [], [], T_api_Value_zero⟩ : T_api_Event) with Kind := 2 }) with Id := z17 }) with Name := z18 }) (cond (S 10) ({ ({ (⟨z5, 0, 0, [], [], [], T_api_Value_zero⟩ : T_api_Event) with Kind := 2 }) with Id := z17 }) (cond (S 8) ({ (⟨z5, 0, 0, [], [], [], T_api_Value_zero⟩ : T_api_Event) with Kind := 2 }) (⟨z5, 0, 0, [], [], [], T_api_Value_zero⟩ : T_api_Event)))), .obj false 0 0 (gfact 0 Rep.intE ()) (), .obj true z1 0 (.dat T_api_Event_rep) T_api_Event_zero, .obj false 0 0 (gfact 1 Rep.ifcE ()) (), .obj false 0 0 (gfact 2 Rep.ifcE ()) ()] : (Nat → Bool) → List Go.Eng.Item) S) = ([.obj true z6 0 (.dat T_api_Event_rep) (cond b12 ({ ({ ({ (⟨z5, 0, 0, [], [], [], T_api_Value_zero⟩ : T_api_Event) with Kind := 2 }) with Id := z17 }) with Name := z18 }) (cond b10 ({ ({ (⟨z5, 0, 0, [], [], [], T_api_Value_zero⟩ : T_api_Event) with Kind := 2 }) with Id := z17 }) (cond b8 ({ (⟨z5, 0, 0, [], [], [], T_api_Value_zero⟩ : T_api_Event) with Kind := 2 }) (⟨z5, 0, 0, [], [], [], T_api_Value_zero⟩ : T_api_Event)))), .obj false 0 0 (gfact 0 Rep.intE ()) (), .obj true z1 0 (.dat T_api_Event_rep) T_api_Event_zero, .obj false 0 0 (gfact 1 Rep.ifcE ()) (), .obj false 0 0 (gfact 2 Rep.ifcE ()) ()] : List Go.Eng.Item) := fun S b8 b10 b12 h8 h10 h12 => by subst h8; subst h10; subst h12; rfl
      refine den_drawH (H' := [.obj true z6 0 (.dat T_api_Event_rep) ({ ({ ({ (⟨z5, 0, 0, [], [], [], T_api_Value_zero⟩ : T_api_Event) with Kind := 2 }) with Id := z17 }) with Name := z18 }), .obj false 0 0 (gfact 0 Rep.intE ()) (), .obj true z1 0 (.dat T_api_Event_rep) T_api_Event_zero, .obj false 0 0 (gfact 1 Rep.ifcE ()) (), .obj false 0 0 (gfact 2 Rep.ifcE ()) ()]) [(53, ⟨Rep.str.slice, z2, true⟩), (54, ⟨(Rep.str).ptrTo, z16, true⟩), (55, ⟨Rep.str, z16, true⟩), (56, ⟨Rep.int .i64, z17, true⟩), (57, ⟨Rep.str.slice, z2, true⟩), (58, ⟨(Rep.str).ptrTo, z18, true⟩), (59, ⟨Rep.str, z18, true⟩), (60, ⟨Rep.addr, (z6, 0 + 1), true⟩), (117, ⟨.any, (), false⟩), (61, ⟨Rep.addr, (z6, 0 + 2), true⟩), (119, ⟨.any, (), false⟩), (62, ⟨Rep.addr, (z6, 0 + 5), true⟩), (121, ⟨.any, (), false⟩)] (fun S => [.obj true z6 0 (.dat T_api_Event_rep) (cond (S 12) ({ ({ ({ (⟨z5, 0, 0, [], [], [], T_api_Value_zero⟩ : T_api_Event) with Kind := 2 }) with Id := z17 }) with Name := z18 }) (cond (S 10) ({ ({ (⟨z5, 0, 0, [], [], [], T_api_Value_zero⟩ : T_api_Event) with Kind := 2 }) with Id := z17 }) (cond (S 8) ({ (⟨z5, 0, 0, [], [], [], T_api_Value_zero⟩ : T_api_Event) with Kind := 2 }) (⟨z5, 0, 0, [], [], [], T_api_Value_zero⟩ : T_api_Event)))), .obj false 0 0 (gfact 0 Rep.intE ()) (), .obj true z1 0 (.dat T_api_Event_rep) T_api_Event_zero, .obj false 0 0 (gfact 1 Rep.ifcE ()) (), .obj false 0 0 (gfact 2 Rep.ifcE ()) ()]) mixed rfl rfl rfl (fun S hS => hB S true true true (hS 8 (by decide)) (hS 10 (by decide)) (hS 12 (by decide))) ⟨?_, ?_, ?_, ?_, ?_, ?_, ?_, ?_, ?_, ?_, ?_, ?_, ?_, trivial⟩ ?_
      · intro S hc hk hp
        refine o_move rfl rfl guard_none (look_o rfl rfl) (fun _ => rfl) ?_
        exact h_end rfl rfl rfl (hB (fun k => S k || Nat.beq k 0) (S 8) (S 10) (S 12) (or_ne rfl) (or_ne rfl) (or_ne rfl))
      · intro S hc hk hp
        refine o_from (bind_eqO h_z16) ?_
        refine o_iaddr Tryz.underlying26 type9 rfl rfl (look_d rfl rfl (pr hp 0 rfl rfl)) (look_int rfl) rfl rfl (o_eqO ?_)
        exact h_end rfl rfl rfl (hB (fun k => S k || Nat.beq k 1) (S 8) (S 10) (S 12) (or_ne rfl) (or_ne rfl) (or_ne rfl))
      · intro S hc hk hp
        refine o_load type9 rfl rfl guard_none (look_d rfl rfl (pr hp 0 rfl rfl)) (fun _ => rfl) ?_
        exact h_end rfl rfl rfl (hB (fun k => S k || Nat.beq k 2) (S 8) (S 10) (S 12) (or_ne rfl) (or_ne rfl) (or_ne rfl))
      · intro S hc hk hp
        refine o_from (bind_eqO h_z17) ?_
        refine o_call rfl rfl rfl callable31 (looks_cons (look_d rfl rfl (pr hp 0 rfl rfl)) (fun _ => rfl) (looks_nil)) (script_number_ok _) (o_eqO ?_)
        exact h_end rfl rfl rfl (hB (fun k => S k || Nat.beq k 3) (S 8) (S 10) (S 12) (or_ne rfl) (or_ne rfl) (or_ne rfl))
      · intro S hc hk hp
        refine o_move rfl rfl guard_none (look_o rfl rfl) (fun _ => rfl) ?_
        exact h_end rfl rfl rfl (hB (fun k => S k || Nat.beq k 4) (S 8) (S 10) (S 12) (or_ne rfl) (or_ne rfl) (or_ne rfl))
      · intro S hc hk hp
        refine o_from (bind_eqO h_z18) ?_
        refine o_iaddr Tryz.underlying26 type9 rfl rfl (look_d rfl rfl (pr hp 0 rfl rfl)) (look_int rfl) rfl rfl (o_eqO ?_)
        exact h_end rfl rfl rfl (hB (fun k => S k || Nat.beq k 5) (S 8) (S 10) (S 12) (or_ne rfl) (or_ne rfl) (or_ne rfl))
      · intro S hc hk hp
        refine o_load type9 rfl rfl guard_none (look_d rfl rfl (pr hp 0 rfl rfl)) (fun _ => rfl) ?_
        exact h_end rfl rfl rfl (hB (fun k => S k || Nat.beq k 6) (S 8) (S 10) (S 12) (or_ne rfl) (or_ne rfl) (or_ne rfl))
      · intro S hc hk hp
        refine o_faddr field30_1 type3 (by decide) rfl rfl guard_none (look_o rfl rfl) (fun _ => rfl) ?_
        exact h_end rfl rfl rfl (hB (fun k => S k || Nat.beq k 7) (S 8) (S 10) (S 12) (or_ne rfl) (or_ne rfl) (or_ne rfl))
      · intro S hc hk hp
        have e10 : S 10 = false := (not_yet (j := 10) (q := 2) hc hk rfl rfl rfl rfl)
        have e12 : S 12 = false := (not_yet (j := 12) (q := 11) hc hk rfl rfl rfl rfl)
        refine eq_H (H' := [.obj true z6 0 (.dat T_api_Event_rep) (⟨z5, 0, 0, [], [], [], T_api_Value_zero⟩ : T_api_Event), .obj false 0 0 (gfact 0 Rep.intE ()) (), .obj true z1 0 (.dat T_api_Event_rep) T_api_Event_zero, .obj false 0 0 (gfact 1 Rep.ifcE ()) (), .obj false 0 0 (gfact 2 Rep.ifcE ()) ()]) (hB S false false false hk e10 e12) ?_
        refine o_ostore type3 T_api_Event_foc1 guard_none (look_d rfl rfl (pr hp 0 rfl rfl)) (fun _ => rfl) (look_int rfl) (fun _ => rfl) ?_
        refine o_weak (H' := [.obj true z6 0 (.dat T_api_Event_rep) ({ (⟨z5, 0, 0, [], [], [], T_api_Value_zero⟩ : T_api_Event) with Kind := 2 }), .obj false 0 0 (gfact 0 Rep.intE ()) (), .obj true z1 0 (.dat T_api_Event_rep) T_api_Event_zero, .obj false 0 0 (gfact 1 Rep.ifcE ()) (), .obj false 0 0 (gfact 2 Rep.ifcE ()) ()]) (sub_pick [0, 1, 2, 3, 4] rfl rfl) ?_
        refine h_none (n := 109) (d := 117) rfl rfl ?_
        exact h_end rfl rfl rfl (hB (fun k => S k || Nat.beq k 8) true false false (or_i rfl) (or_f e10 rfl) (or_f e12 rfl))
      · intro S hc hk hp
        refine o_faddr field30_2 type3 (by decide) rfl rfl guard_none (look_o rfl rfl) (fun _ => rfl) ?_
        exact h_end rfl rfl rfl (hB (fun k => S k || Nat.beq k 9) (S 8) (S 10) (S 12) (or_ne rfl) (or_ne rfl) (or_ne rfl))
      · intro S hc hk hp
        have e8 : S 8 = true := (pr hp 2 rfl rfl)
        have e12 : S 12 = false := (not_yet (j := 12) (q := 2) hc hk rfl rfl rfl rfl)
        refine eq_H (H' := [.obj true z6 0 (.dat T_api_Event_rep) ({ (⟨z5, 0, 0, [], [], [], T_api_Value_zero⟩ : T_api_Event) with Kind := 2 }), .obj false 0 0 (gfact 0 Rep.intE ()) (), .obj true z1 0 (.dat T_api_Event_rep) T_api_Event_zero, .obj false 0 0 (gfact 1 Rep.ifcE ()) (), .obj false 0 0 (gfact 2 Rep.ifcE ()) ()]) (hB S true false false e8 hk e12) ?_
        refine o_ostore type3 T_api_Event_foc2 guard_none (look_d rfl rfl (pr hp 0 rfl rfl)) (fun _ => rfl) (look_d rfl rfl (pr hp 1 rfl rfl)) (fun _ => rfl) ?_
        refine o_weak (H' := [.obj true z6 0 (.dat T_api_Event_rep) ({ ({ (⟨z5, 0, 0, [], [], [], T_api_Value_zero⟩ : T_api_Event) with Kind := 2 }) with Id := z17 }), .obj false 0 0 (gfact 0 Rep.intE ()) (), .obj true z1 0 (.dat T_api_Event_rep) T_api_Event_zero, .obj false 0 0 (gfact 1 Rep.ifcE ()) (), .obj false 0 0 (gfact 2 Rep.ifcE ()) ()]) (sub_pick [0, 1, 2, 3, 4] rfl rfl) ?_
        refine h_none (n := 109) (d := 119) rfl rfl ?_
        exact h_end rfl rfl rfl (hB (fun k => S k || Nat.beq k 10) true true false (or_t e8) (or_i rfl) (or_f e12 rfl))
      · intro S hc hk hp
        refine o_faddr field30_5 type9 (by decide) rfl rfl guard_none (look_o rfl rfl) (fun _ => rfl) ?_
        exact h_end rfl rfl rfl (hB (fun k => S k || Nat.beq k 11) (S 8) (S 10) (S 12) (or_ne rfl) (or_ne rfl) (or_ne rfl))
      · intro S hc hk hp
        have e8 : S 8 = true := (pr hp 11 rfl rfl)
        have e10 : S 10 = true := (pr hp 2 rfl rfl)
        refine eq_H (H' := [.obj true z6 0 (.dat T_api_Event_rep) ({ ({ (⟨z5, 0, 0, [], [], [], T_api_Value_zero⟩ : T_api_Event) with Kind := 2 }) with Id := z17 }), .obj false 0 0 (gfact 0 Rep.intE ()) (), .obj true z1 0 (.dat T_api_Event_rep) T_api_Event_zero, .obj false 0 0 (gfact 1 Rep.ifcE ()) (), .obj false 0 0 (gfact 2 Rep.ifcE ()) ()]) (hB S true true false e8 e10 hk) ?_
        refine o_ostore type9 T_api_Event_foc5 guard_none (look_d rfl rfl (pr hp 0 rfl rfl)) (fun _ => rfl) (look_d rfl rfl (pr hp 1 rfl rfl)) (fun _ => rfl) ?_
        refine o_weak (H' := [.obj true z6 0 (.dat T_api_Event_rep) ({ ({ ({ (⟨z5, 0, 0, [], [], [], T_api_Value_zero⟩ : T_api_Event) with Kind := 2 }) with Id := z17 }) with Name := z18 }), .obj false 0 0 (gfact 0 Rep.intE ()) (), .obj true z1 0 (.dat T_api_Event_rep) T_api_Event_zero, .obj false 0 0 (gfact 1 Rep.ifcE ()) (), .obj false 0 0 (gfact 2 Rep.ifcE ()) ()]) (sub_pick [0, 1, 2, 3, 4] rfl rfl) ?_
        refine h_none (n := 109) (d := 121) rfl rfl ?_
        exact h_end rfl rfl rfl (hB (fun k => S k || Nat.beq k 12) true true true (or_t e8) (or_t e10) (or_i rfl))
      refine den_blkend ?_
      refine den_seq ?_
      refine den_region rfl ?_
      refine o_oloadi 0 rfl type30 foc_self rfl guard_none (look_tmp rfl) (fun _ => rfl) ?_
      refine o_weak (H' := [.obj true z1 0 (.dat T_api_Event_rep) T_api_Event_zero, .obj true z6 0 (.dat T_api_Event_rep) ({ ({ ({ (⟨z5, 0, 0, [], [], [], T_api_Value_zero⟩ : T_api_Event) with Kind := 2 }) with Id := z17 }) with Name := z18 }), .obj false 0 0 (gfact 0 Rep.intE ()) (), .obj false 0 0 (gfact 1 Rep.ifcE ()) (), .obj false 0 0 (gfact 2 Rep.ifcE ()) ()]) (sub_pick [2, 0, 1, 3, 4] rfl rfl) ?_
      refine o_ostore type30 foc_self guard_none (look_tmp rfl) (fun _ => rfl) (look_tmp rfl) (fun _ => rfl) ?_
      refine o_lti (it := fun x => .obj true z1 0 (.dat T_api_Event_rep) x) (fun z19 => ?_)
      refine o_end ?_
      refine den_code_ret ?_
      exact dene_resI () (res1 rfl (rv_cell 0 type30 rfl rfl)) (fun _ _ _ k => ato_pick [] rfl rfl k)
    · refine den_seq ?_
      refine den_region rfl ?_
      refine o_move rfl rfl guard_none (look_tmp rfl) (fun _ => rfl) ?_
      refine o_seql rfl rfl guard_none (look_tmp rfl) (look_str (l := [101, 110, 100]) rfl (by decide)) (fun _ => rfl) (fun _ => rfl) ?_
      refine o_move rfl rfl guard_none (look_tmp rfl) (fun _ => rfl) ?_
      refine o_move rfl rfl (guard_some rfl rfl rfl) (look_tmp rfl) (fun _ => rfl) ?_
      refine o_llen Tryz.underlying26 rfl rfl (guard_some rfl rfl rfl) (look_tmp rfl) (fun h => h) ?_
      refine o_eql rfl rfl (guard_some rfl rfl rfl) (look_tmp rfl) (look_int rfl) (fun h => h) (fun _ => rfl) ?_
      refine o_pick rfl rfl guard_none (look_tmp rfl) (look_tmp rfl) look_bool (fun _ => rfl) (fun h1 h2 => pick_t ((fun _ => rfl) h1) h2) (fun _ _ => rfl) ?_
      refine o_assign rfl rfl guard_none (look_tmp rfl) (fun _ => rfl) ?_
      refine o_lt (fun z20 => ?_)
      refine o_end ?_
      refine den_cond (look_tmp rfl) ?_ ?_
      · refine den_region rfl ?_
        refine o_move rfl rfl guard_none (look_tmp rfl) (fun _ => rfl) ?_
        refine o_iaddr Tryz.underlying26 type9 rfl rfl (look_tmp rfl) (look_int rfl) rfl rfl (fun z21 => ?_)
        refine o_load type9 rfl rfl guard_none (look_tmp rfl) (fun _ => rfl) ?_
        refine o_call rfl rfl rfl callable31 (looks_cons (look_tmp rfl) (fun _ => rfl) (looks_nil)) (script_number_ok _) (fun z22 => ?_)
        refine o_faddr field30_1 type3 (by decide) rfl rfl guard_none (look_tmp rfl) (fun _ => rfl) ?_
        refine o_ostore type3 T_api_Event_foc1 guard_none (look_tmp rfl) (fun _ => rfl) (look_int rfl) (fun _ => rfl) ?_
        refine o_lti (it := fun x => .obj true z6 0 (.dat T_api_Event_rep) x) (fun z23 => ?_)
        refine o_faddr field30_2 type3 (by decide) rfl rfl guard_none (look_tmp rfl) (fun _ => rfl) ?_
        refine o_ostore type3 T_api_Event_foc2 guard_none (look_tmp rfl) (fun _ => rfl) (look_tmp rfl) (fun _ => rfl) ?_
        refine o_end ?_
        refine den_blkend ?_
        refine den_seq ?_
        refine den_region rfl ?_
        refine o_oloadi 0 rfl type30 foc_self rfl guard_none (look_tmp rfl) (fun _ => rfl) ?_
        refine o_weak (H' := [.obj true z1 0 (.dat T_api_Event_rep) T_api_Event_zero, .obj true z6 0 (.dat T_api_Event_rep) ({ z23 with Id := z22 }), .obj false 0 0 (gfact 0 Rep.intE ()) (), .obj false 0 0 (gfact 1 Rep.ifcE ()) (), .obj false 0 0 (gfact 2 Rep.ifcE ()) ()]) (sub_pick [2, 0, 1, 3, 4] rfl rfl) ?_
        refine o_ostore type30 foc_self guard_none (look_tmp rfl) (fun _ => rfl) (look_tmp rfl) (fun _ => rfl) ?_
        refine o_end ?_
        refine den_code_ret ?_
        exact dene_resI () (res1 rfl (rv_cell 0 type30 rfl rfl)) (fun _ _ _ k => ato_pick [] rfl rfl k)
      · refine den_seq ?_
        refine den_region rfl ?_
        refine o_move rfl rfl guard_none (look_tmp rfl) (fun _ => rfl) ?_
        refine o_seql rfl rfl guard_none (look_tmp rfl) (look_str (l := [115, 101, 116]) rfl (by decide)) (fun _ => rfl) (fun _ => rfl) ?_
        refine o_move rfl rfl guard_none (look_tmp rfl) (fun _ => rfl) ?_
        refine o_move rfl rfl (guard_some rfl rfl rfl) (look_tmp rfl) (fun _ => rfl) ?_
        refine o_llen Tryz.underlying26 rfl rfl (guard_some rfl rfl rfl) (look_tmp rfl) (fun h => h) ?_
        refine o_gtr rfl rfl (guard_some rfl rfl rfl) (look_tmp rfl) (look_int rfl) (fun h => h) (fun _ => rfl) ?_
        refine o_pick rfl rfl guard_none (look_tmp rfl) (look_tmp rfl) look_bool (fun _ => rfl) (fun h1 h2 => pick_t ((fun _ => rfl) h1) h2) (fun _ _ => rfl) ?_
        refine o_assign rfl rfl guard_none (look_tmp rfl) (fun _ => rfl) ?_
        refine o_lt (fun z24 => ?_)
        refine o_end ?_
        refine den_cond (look_tmp rfl) ?_ ?_
        · refine den_seq ?_
          refine den_open (fun z25 h_z25 => ?_)
          refine den_open (fun z26 h_z26 => ?_)
          have hB : ∀ (S : Nat → Bool) (b7 b9 b11 : Bool), S 7 = b7 → S 9 = b9 → S 11 = b11 → ((fun S => [.obj true z6 0 (.dat T_api_Event_rep) (cond (S 11) ({ ({ ({ (⟨z5, 0, 0, [], [], [], T_api_Value_zero⟩ : T_api_Event) with Kind := 4 }) with Subject := z25 }) with Name := z26 }) (cond (S 9) ({ ({ (⟨z5, 0, 0, [], [], [], T_api_Value_zero⟩ : T_api_Event) with Kind := 4 }) with Subject := z25 }) (cond (S 7) ({ (⟨z5, 0, 0, [], [], [], T_api_Value_zero⟩ : T_api_Event) with Kind := 4 }) (⟨z5, 0, 0, [], [], [], T_api_Value_zero⟩ : T_api_Event)))), .obj false 0 0 (gfact 0 Rep.intE ()) (), .obj true z1 0 (.dat T_api_Event_rep) T_api_Event_zero, .obj false 0 0 (gfact 1 Rep.ifcE ()) (), .obj false 0 0 (gfact 2 Rep.ifcE ()) ()] : (Nat → Bool) → List Go.Eng.Item) S) = ([.obj true z6 0 (.dat T_api_Event_rep) (cond b11 ({ ({ ({ (⟨z5, 0, 0, [], [], [], T_api_Value_zero⟩ : T_api_Event) with Kind := 4 }) with Subject := z25 }) with Name := z26 }) (cond b9 ({ ({ (⟨z5, 0, 0, [], [], [], T_api_Value_zero⟩ : T_api_Event) with Kind := 4 }) with Subject := z25 }) (cond b7 ({ (⟨z5, 0, 0, [], [], [], T_api_Value_zero⟩ : T_api_Event) with Kind := 4 }) (⟨z5, 0, 0, [], [], [], T_api_Value_zero⟩ : T_api_Event)))), .obj false 0 0 (gfact 0 Rep.intE ()) (), .obj true z1 0 (.dat T_api_Event_rep) T_api_Event_zero, .obj false 0 0 (gfact 1 Rep.ifcE ()) (), .obj false 0 0 (gfact 2 Rep.ifcE ()) ()] : List Go.Eng.Item) := fun S b7 b9 b11 h7 h9 h11 => by subst h7; subst h9; subst h11; rfl
          refine den_drawH (H' := [.obj true z6 0 (.dat T_api_Event_rep) ({ ({ ({ (⟨z5, 0, 0, [], [], [], T_api_Value_zero⟩ : T_api_Event) with Kind := 4 }) with Subject := z25 }) with Name := z26 }), .obj false 0 0 (gfact 0 Rep.intE ()) (), .obj true z1 0 (.dat T_api_Event_rep) T_api_Event_zero, .obj false 0 0 (gfact 1 Rep.ifcE ()) (), .obj false 0 0 (gfact 2 Rep.ifcE ()) ()]) [(85, ⟨Rep.str.slice, z2, true⟩), (86, ⟨(Rep.str).ptrTo, z25, true⟩), (87, ⟨Rep.str, z25, true⟩), (88, ⟨Rep.str.slice, z2, true⟩), (89, ⟨(Rep.str).ptrTo, z26, true⟩), (90, ⟨Rep.str, z26, true⟩), (91, ⟨Rep.addr, (z6, 0 + 1), true⟩), (116, ⟨.any, (), false⟩), (92, ⟨Rep.addr, (z6, 0 + 3), true⟩), (118, ⟨.any, (), false⟩), (93, ⟨Rep.addr, (z6, 0 + 5), true⟩), (120, ⟨.any, (), false⟩)] (fun S => [.obj true z6 0 (.dat T_api_Event_rep) (cond (S 11) ({ ({ ({ (⟨z5, 0, 0, [], [], [], T_api_Value_zero⟩ : T_api_Event) with Kind := 4 }) with Subject := z25 }) with Name := z26 }) (cond (S 9) ({ ({ (⟨z5, 0, 0, [], [], [], T_api_Value_zero⟩ : T_api_Event) with Kind := 4 }) with Subject := z25 }) (cond (S 7) ({ (⟨z5, 0, 0, [], [], [], T_api_Value_zero⟩ : T_api_Event) with Kind := 4 }) (⟨z5, 0, 0, [], [], [], T_api_Value_zero⟩ : T_api_Event)))), .obj false 0 0 (gfact 0 Rep.intE ()) (), .obj true z1 0 (.dat T_api_Event_rep) T_api_Event_zero, .obj false 0 0 (gfact 1 Rep.ifcE ()) (), .obj false 0 0 (gfact 2 Rep.ifcE ()) ()]) mixed rfl rfl rfl (fun S hS => hB S true true true (hS 7 (by decide)) (hS 9 (by decide)) (hS 11 (by decide))) ⟨?_, ?_, ?_, ?_, ?_, ?_, ?_, ?_, ?_, ?_, ?_, ?_, trivial⟩ ?_
          · intro S hc hk hp
            refine o_move rfl rfl guard_none (look_o rfl rfl) (fun _ => rfl) ?_
            exact h_end rfl rfl rfl (hB (fun k => S k || Nat.beq k 0) (S 7) (S 9) (S 11) (or_ne rfl) (or_ne rfl) (or_ne rfl))
          · intro S hc hk hp
            refine o_from (bind_eqO h_z25) ?_
            refine o_iaddr Tryz.underlying26 type9 rfl rfl (look_d rfl rfl (pr hp 0 rfl rfl)) (look_int rfl) rfl rfl (o_eqO ?_)
            exact h_end rfl rfl rfl (hB (fun k => S k || Nat.beq k 1) (S 7) (S 9) (S 11) (or_ne rfl) (or_ne rfl) (or_ne rfl))
          · intro S hc hk hp
            refine o_load type9 rfl rfl guard_none (look_d rfl rfl (pr hp 0 rfl rfl)) (fun _ => rfl) ?_
            exact h_end rfl rfl rfl (hB (fun k => S k || Nat.beq k 2) (S 7) (S 9) (S 11) (or_ne rfl) (or_ne rfl) (or_ne rfl))
          · intro S hc hk hp
            refine o_move rfl rfl guard_none (look_o rfl rfl) (fun _ => rfl) ?_
            exact h_end rfl rfl rfl (hB (fun k => S k || Nat.beq k 3) (S 7) (S 9) (S 11) (or_ne rfl) (or_ne rfl) (or_ne rfl))
          · intro S hc hk hp
            refine o_from (bind_eqO h_z26) ?_
            refine o_iaddr Tryz.underlying26 type9 rfl rfl (look_d rfl rfl (pr hp 0 rfl rfl)) (look_int rfl) rfl rfl (o_eqO ?_)
            exact h_end rfl rfl rfl (hB (fun k => S k || Nat.beq k 4) (S 7) (S 9) (S 11) (or_ne rfl) (or_ne rfl) (or_ne rfl))
          · intro S hc hk hp
            refine o_load type9 rfl rfl guard_none (look_d rfl rfl (pr hp 0 rfl rfl)) (fun _ => rfl) ?_
            exact h_end rfl rfl rfl (hB (fun k => S k || Nat.beq k 5) (S 7) (S 9) (S 11) (or_ne rfl) (or_ne rfl) (or_ne rfl))
          · intro S hc hk hp
            refine o_faddr field30_1 type3 (by decide) rfl rfl guard_none (look_o rfl rfl) (fun _ => rfl) ?_
            exact h_end rfl rfl rfl (hB (fun k => S k || Nat.beq k 6) (S 7) (S 9) (S 11) (or_ne rfl) (or_ne rfl) (or_ne rfl))
          · intro S hc hk hp
            have e9 : S 9 = false := (not_yet (j := 9) (q := 2) hc hk rfl rfl rfl rfl)
            have e11 : S 11 = false := (not_yet (j := 11) (q := 10) hc hk rfl rfl rfl rfl)
            refine eq_H (H' := [.obj true z6 0 (.dat T_api_Event_rep) (⟨z5, 0, 0, [], [], [], T_api_Value_zero⟩ : T_api_Event), .obj false 0 0 (gfact 0 Rep.intE ()) (), .obj true z1 0 (.dat T_api_Event_rep) T_api_Event_zero, .obj false 0 0 (gfact 1 Rep.ifcE ()) (), .obj false 0 0 (gfact 2 Rep.ifcE ()) ()]) (hB S false false false hk e9 e11) ?_
            refine o_ostore type3 T_api_Event_foc1 guard_none (look_d rfl rfl (pr hp 0 rfl rfl)) (fun _ => rfl) (look_int rfl) (fun _ => rfl) ?_
            refine o_weak (H' := [.obj true z6 0 (.dat T_api_Event_rep) ({ (⟨z5, 0, 0, [], [], [], T_api_Value_zero⟩ : T_api_Event) with Kind := 4 }), .obj false 0 0 (gfact 0 Rep.intE ()) (), .obj true z1 0 (.dat T_api_Event_rep) T_api_Event_zero, .obj false 0 0 (gfact 1 Rep.ifcE ()) (), .obj false 0 0 (gfact 2 Rep.ifcE ()) ()]) (sub_pick [0, 1, 2, 3, 4] rfl rfl) ?_
            refine h_none (n := 109) (d := 116) rfl rfl ?_
            exact h_end rfl rfl rfl (hB (fun k => S k || Nat.beq k 7) true false false (or_i rfl) (or_f e9 rfl) (or_f e11 rfl))
          · intro S hc hk hp
            refine o_faddr field30_3 type9 (by decide) rfl rfl guard_none (look_o rfl rfl) (fun _ => rfl) ?_
            exact h_end rfl rfl rfl (hB (fun k => S k || Nat.beq k 8) (S 7) (S 9) (S 11) (or_ne rfl) (or_ne rfl) (or_ne rfl))
          · intro S hc hk hp
            have e7 : S 7 = true := (pr hp 2 rfl rfl)
            have e11 : S 11 = false := (not_yet (j := 11) (q := 2) hc hk rfl rfl rfl rfl)
            refine eq_H (H' := [.obj true z6 0 (.dat T_api_Event_rep) ({ (⟨z5, 0, 0, [], [], [], T_api_Value_zero⟩ : T_api_Event) with Kind := 4 }), .obj false 0 0 (gfact 0 Rep.intE ()) (), .obj true z1 0 (.dat T_api_Event_rep) T_api_Event_zero, .obj false 0 0 (gfact 1 Rep.ifcE ()) (), .obj false 0 0 (gfact 2 Rep.ifcE ()) ()]) (hB S true false false e7 hk e11) ?_
            refine o_ostore type9 T_api_Event_foc3 guard_none (look_d rfl rfl (pr hp 0 rfl rfl)) (fun _ => rfl) (look_d rfl rfl (pr hp 1 rfl rfl)) (fun _ => rfl) ?_
            refine o_weak (H' := [.obj true z6 0 (.dat T_api_Event_rep) ({ ({ (⟨z5, 0, 0, [], [], [], T_api_Value_zero⟩ : T_api_Event) with Kind := 4 }) with Subject := z25 }), .obj false 0 0 (gfact 0 Rep.intE ()) (), .obj true z1 0 (.dat T_api_Event_rep) T_api_Event_zero, .obj false 0 0 (gfact 1 Rep.ifcE ()) (), .obj false 0 0 (gfact 2 Rep.ifcE ()) ()]) (sub_pick [0, 1, 2, 3, 4] rfl rfl) ?_
            refine h_none (n := 109) (d := 118) rfl rfl ?_
            exact h_end rfl rfl rfl (hB (fun k => S k || Nat.beq k 9) true true false (or_t e7) (or_i rfl) (or_f e11 rfl))
          · intro S hc hk hp
            refine o_faddr field30_5 type9 (by decide) rfl rfl guard_none (look_o rfl rfl) (fun _ => rfl) ?_
            exact h_end rfl rfl rfl (hB (fun k => S k || Nat.beq k 10) (S 7) (S 9) (S 11) (or_ne rfl) (or_ne rfl) (or_ne rfl))
          · intro S hc hk hp
            have e7 : S 7 = true := (pr hp 10 rfl rfl)
            have e9 : S 9 = true := (pr hp 2 rfl rfl)
            refine eq_H (H' := [.obj true z6 0 (.dat T_api_Event_rep) ({ ({ (⟨z5, 0, 0, [], [], [], T_api_Value_zero⟩ : T_api_Event) with Kind := 4 }) with Subject := z25 }), .obj false 0 0 (gfact 0 Rep.intE ()) (), .obj true z1 0 (.dat T_api_Event_rep) T_api_Event_zero, .obj false 0 0 (gfact 1 Rep.ifcE ()) (), .obj false 0 0 (gfact 2 Rep.ifcE ()) ()]) (hB S true true false e7 e9 hk) ?_
            refine o_ostore type9 T_api_Event_foc5 guard_none (look_d rfl rfl (pr hp 0 rfl rfl)) (fun _ => rfl) (look_d rfl rfl (pr hp 1 rfl rfl)) (fun _ => rfl) ?_
            refine o_weak (H' := [.obj true z6 0 (.dat T_api_Event_rep) ({ ({ ({ (⟨z5, 0, 0, [], [], [], T_api_Value_zero⟩ : T_api_Event) with Kind := 4 }) with Subject := z25 }) with Name := z26 }), .obj false 0 0 (gfact 0 Rep.intE ()) (), .obj true z1 0 (.dat T_api_Event_rep) T_api_Event_zero, .obj false 0 0 (gfact 1 Rep.ifcE ()) (), .obj false 0 0 (gfact 2 Rep.ifcE ()) ()]) (sub_pick [0, 1, 2, 3, 4] rfl rfl) ?_
            refine h_none (n := 109) (d := 120) rfl rfl ?_
            exact h_end rfl rfl rfl (hB (fun k => S k || Nat.beq k 11) true true true (or_t e7) (or_t e9) (or_i rfl))
          refine den_region rfl ?_
          refine o_move rfl rfl guard_none (look_tmp rfl) (fun _ => rfl) ?_
          refine o_lsub Tryz.underlying26 type9 rfl rfl (look_tmp rfl) rfl (bnd_some (look_int rfl) (fun _ => rfl)) bnd_none (fun z27 => ?_)
          refine o_call rfl rfl rfl callable33 (looks_cons (look_tmp rfl) (fun _ => rfl) (looks_cons (look_str (l := [32]) rfl (by decide)) (fun _ => rfl) (looks_nil))) (strings_Join_ok _ _) (fun z28 => ?_)
          refine o_weak (H' := [] ++ ([.obj false 0 0 (gfact 0 Rep.intE ()) (), .obj false 0 0 (gfact 1 Rep.ifcE ()) (), .obj false 0 0 (gfact 2 Rep.ifcE ()) ()] ++ [.obj true z6 0 (.dat T_api_Event_rep) ({ ({ ({ (⟨z5, 0, 0, [], [], [], T_api_Value_zero⟩ : T_api_Event) with Kind := 4 }) with Subject := z25 }) with Name := z26 }), .obj true z1 0 (.dat T_api_Event_rep) T_api_Event_zero])) (sub_pick [1, 3, 4, 0, 2] rfl rfl) ?_
          refine o_callU rfl rfl rfl rfl rfl callable32 (looks_cons (look_tmp rfl) (fun _ => rfl) (looks_nil)) (.cons (.cons (.cons .nil))) (script_value_ok z28) (fun _ _ => wr_n) (fun z30α z29 => ?_)
          refine o_weak (H' := [.obj false 0 0 (gfact 0 Rep.intE ()) (), .obj false 0 0 (gfact 1 Rep.ifcE ()) (), .obj false 0 0 (gfact 2 Rep.ifcE ()) (), .obj true z6 0 (.dat T_api_Event_rep) ({ ({ ({ (⟨z5, 0, 0, [], [], [], T_api_Value_zero⟩ : T_api_Event) with Kind := 4 }) with Subject := z25 }) with Name := z26 }), .obj true z1 0 (.dat T_api_Event_rep) T_api_Event_zero]) (sub_pick [0, 1, 2, 3, 4] rfl rfl) ?_
          refine o_faddr field30_6 type28 (by decide) rfl rfl guard_none (look_tmp rfl) (fun _ => rfl) ?_
          refine o_weak (H' := [.obj true z6 0 (.dat T_api_Event_rep) ({ ({ ({ (⟨z5, 0, 0, [], [], [], T_api_Value_zero⟩ : T_api_Event) with Kind := 4 }) with Subject := z25 }) with Name := z26 }), .obj false 0 0 (gfact 0 Rep.intE ()) (), .obj false 0 0 (gfact 1 Rep.ifcE ()) (), .obj false 0 0 (gfact 2 Rep.ifcE ()) (), .obj true z1 0 (.dat T_api_Event_rep) T_api_Event_zero]) (sub_pick [3, 0, 1, 2, 4] rfl rfl) ?_
          refine o_ostore type28 T_api_Event_foc6 guard_none (look_tmp rfl) (fun _ => rfl) (look_tmp rfl) (fun _ => rfl) ?_
          refine o_lti (it := fun x => .obj true z6 0 (.dat T_api_Event_rep) x) (fun z31 => ?_)
          refine o_end ?_
          refine den_blkend ?_
          refine den_seq ?_
          refine den_region rfl ?_
          refine o_oloadi 0 rfl type30 foc_self rfl guard_none (look_tmp rfl) (fun _ => rfl) ?_
          refine o_weak (H' := [.obj true z1 0 (.dat T_api_Event_rep) T_api_Event_zero, .obj true z6 0 (.dat T_api_Event_rep) z31, .obj false 0 0 (gfact 0 Rep.intE ()) (), .obj false 0 0 (gfact 1 Rep.ifcE ()) (), .obj false 0 0 (gfact 2 Rep.ifcE ()) ()]) (sub_pick [4, 0, 1, 2, 3] rfl rfl) ?_
          refine o_ostore type30 foc_self guard_none (look_tmp rfl) (fun _ => rfl) (look_tmp rfl) (fun _ => rfl) ?_
          refine o_end ?_
          refine den_code_ret ?_
          exact dene_resI () (res1 rfl (rv_cell 0 type30 rfl rfl)) (fun _ _ _ k => ato_pick [] rfl rfl k)
        · refine den_seq ?_
          refine den_region rfl ?_
          refine o_move rfl rfl guard_none (look_tmp rfl) (fun _ => rfl) ?_
          refine o_seql rfl rfl guard_none (look_tmp rfl) (look_str (l := [116, 105, 99, 107]) rfl (by decide)) (fun _ => rfl) (fun _ => rfl) ?_
          refine o_move rfl rfl guard_none (look_tmp rfl) (fun _ => rfl) ?_
          refine o_move rfl rfl (guard_some rfl rfl rfl) (look_tmp rfl) (fun _ => rfl) ?_
          refine o_llen Tryz.underlying26 rfl rfl (guard_some rfl rfl rfl) (look_tmp rfl) (fun h => h) ?_
          refine o_eql rfl rfl (guard_some rfl rfl rfl) (look_tmp rfl) (look_int rfl) (fun h => h) (fun _ => rfl) ?_
          refine o_pick rfl rfl guard_none (look_tmp rfl) (look_tmp rfl) look_bool (fun _ => rfl) (fun h1 h2 => pick_t ((fun _ => rfl) h1) h2) (fun _ _ => rfl) ?_
          refine o_assign rfl rfl guard_none (look_tmp rfl) (fun _ => rfl) ?_
          refine o_lt (fun z32 => ?_)
          refine o_end ?_
          refine den_cond (look_tmp rfl) ?_ ?_
          · refine den_region rfl ?_
            refine o_faddr field30_1 type3 (by decide) rfl rfl guard_none (look_tmp rfl) (fun _ => rfl) ?_
            refine o_ostore type3 T_api_Event_foc1 guard_none (look_tmp rfl) (fun _ => rfl) (look_int rfl) (fun _ => rfl) ?_
            refine o_lti (it := fun x => .obj true z6 0 (.dat T_api_Event_rep) x) (fun z33 => ?_)
            refine o_end ?_
            refine den_blkend ?_
            refine den_seq ?_
            refine den_region rfl ?_
            refine o_oloadi 0 rfl type30 foc_self rfl guard_none (look_tmp rfl) (fun _ => rfl) ?_
            refine o_weak (H' := [.obj true z1 0 (.dat T_api_Event_rep) T_api_Event_zero, .obj true z6 0 (.dat T_api_Event_rep) z33, .obj false 0 0 (gfact 0 Rep.intE ()) (), .obj false 0 0 (gfact 1 Rep.ifcE ()) (), .obj false 0 0 (gfact 2 Rep.ifcE ()) ()]) (sub_pick [2, 0, 1, 3, 4] rfl rfl) ?_
            refine o_ostore type30 foc_self guard_none (look_tmp rfl) (fun _ => rfl) (look_tmp rfl) (fun _ => rfl) ?_
            refine o_end ?_
            refine den_code_ret ?_
            exact dene_resI () (res1 rfl (rv_cell 0 type30 rfl rfl)) (fun _ _ _ k => ato_pick [] rfl rfl k)
          · refine den_skip ?_
            refine den_blkend ?_
            refine den_seq ?_
            refine den_region rfl ?_
            refine o_oloadi 0 rfl type30 foc_self rfl guard_none (look_tmp rfl) (fun _ => rfl) ?_
            refine o_weak (H' := [.obj true z1 0 (.dat T_api_Event_rep) T_api_Event_zero, .obj true z6 0 (.dat T_api_Event_rep) (⟨z5, 0, 0, [], [], [], T_api_Value_zero⟩ : T_api_Event), .obj false 0 0 (gfact 0 Rep.intE ()) (), .obj false 0 0 (gfact 1 Rep.ifcE ()) (), .obj false 0 0 (gfact 2 Rep.ifcE ()) ()]) (sub_pick [2, 0, 1, 3, 4] rfl rfl) ?_
            refine o_ostore type30 foc_self guard_none (look_tmp rfl) (fun _ => rfl) (look_tmp rfl) (fun _ => rfl) ?_
            refine o_end ?_
            refine den_code_ret ?_
            exact dene_resI () (res1 rfl (rv_cell 0 type30 rfl rfl)) (fun _ _ _ k => ato_pick [] rfl rfl k)

theorem script_Parse_ok  (s_0 : Bytes) : FunOkI Tryz.prog 7 [⟨Rep.str, s_0, true⟩] [.obj false 0 0 (gfact 0 Rep.intE ()) (), .obj false 0 0 (gfact 1 Rep.ifcE ()) (), .obj false 0 0 (gfact 2 Rep.ifcE ()) ()] (script_Parse s_0) (Rep.pair (T_api_Event_rep) (Rep.int .i64)) (fun (α : Unit) (y : (T_api_Event × Int)) => (y.1, y.2)) (fun α y => []) := by
  refine fun_okI Tryz.func7 rfl Tryz.ntmps7 rfl (all_cons rfl all_nil) (fun w0 ok0 M => ?_)
  refine den_seq ?_
  refine den_region rfl ?_
  refine o_alloc zero30 rfl rfl (fun z1 => ?_)
  refine o_assign rfl rfl guard_none (look_int rfl) (fun _ => rfl) ?_
  refine o_end ?_
  refine den_seq ?_
  refine den_region rfl ?_
  refine o_move rfl rfl guard_none (look_tmp rfl) (fun _ => rfl) ?_
  refine o_weak (H' := [] ++ ([.obj false 0 0 (gfact 0 Rep.intE ()) (), .obj false 0 0 (gfact 1 Rep.ifcE ()) (), .obj false 0 0 (gfact 2 Rep.ifcE ()) ()] ++ [.obj true z1 0 (.dat T_api_Event_rep) T_api_Event_zero])) (sub_pick [1, 2, 3, 0] rfl rfl) ?_
  refine o_callU rfl rfl rfl rfl rfl callable17 (looks_cons (look_tmp rfl) (fun _ => rfl) (looks_nil)) (.cons (.cons (.cons .nil))) (script_read_ok s_0) (fun _ _ => wr_n) (fun z3α z2 => ?_)
  refine o_weak (H' := [.obj false 0 0 (gfact 0 Rep.intE ()) (), .obj false 0 0 (gfact 1 Rep.ifcE ()) (), .obj false 0 0 (gfact 2 Rep.ifcE ()) (), .obj true z1 0 (.dat T_api_Event_rep) T_api_Event_zero]) (sub_pick [0, 1, 2, 3] rfl rfl) ?_
  refine o_alloc zero30 rfl rfl (fun z4 => ?_)
  refine o_ostore type30 foc_self guard_none (look_tmp rfl) (fun _ => rfl) (look_tmp rfl) (fun _ => rfl) ?_
  refine o_end ?_
  refine den_seq ?_
  refine den_seq ?_
  refine den_region rfl ?_
  refine o_oloadi 0 rfl type30 foc_self rfl guard_none (look_tmp rfl) (fun _ => rfl) ?_
  refine o_call rfl rfl rfl callable11 (looks_cons (look_tmp rfl) (fun _ => rfl) (looks_nil)) (script_Line_ok _) (fun z5 => ?_)
  refine o_move rfl rfl guard_none (look_tmp rfl) (fun _ => rfl) ?_
  refine o_fst rfl rfl guard_none (look_tmp rfl) (fun _ => rfl) ?_
  refine o_snd rfl rfl guard_none (look_tmp rfl) (fun _ => rfl) ?_
  refine o_assign rfl rfl guard_none (look_tmp rfl) (fun _ => rfl) ?_
  refine o_assign rfl rfl guard_none (look_tmp rfl) (fun _ => rfl) ?_
  refine o_end ?_
  refine den_seq ?_
  refine den_region rfl ?_
  refine o_move rfl rfl guard_none (look_tmp rfl) (fun _ => rfl) ?_
  refine o_neq rfl rfl guard_none (look_tmp rfl) (look_int rfl) (fun _ => rfl) (fun _ => rfl) ?_
  refine o_move rfl rfl guard_none (look_tmp rfl) (fun _ => rfl) ?_
  refine o_move rfl rfl (guard_some rfl rfl rfl) (look_tmp rfl) (fun _ => rfl) ?_
  refine o_move rfl rfl (guard_some rfl rfl rfl) (look_tmp rfl) (fun _ => rfl) ?_
  refine o_sneq rfl rfl (guard_some rfl rfl rfl) (look_tmp rfl) (look_tmp rfl) (fun h => h) (fun h => h) ?_
  refine o_pick rfl rfl guard_none (look_tmp rfl) look_bool (look_tmp rfl) (fun _ => rfl) (fun _ _ => rfl) (fun h1 h2 => pick_f ((fun _ => rfl) h1) h2) ?_
  refine o_end ?_
  refine den_cond (look_tmp rfl) ?_ ?_
  · refine den_seq ?_
    refine den_region rfl ?_
    refine o_build (R := T_api_Event_rep0) (f := T_api_Event_tup) (y := (⟨0, 0, 0, [], [], [], T_api_Value_zero⟩ : T_api_Event)) shape30 rfl rfl rfl rfl guard_none (bld_zero (z_int rfl) (bld_zero (z_int rfl) (bld_zero (z_int rfl) (bld_zero (z_str rfl) (bld_zero (z_str rfl) (bld_zero (z_str rfl) (bld_zero (z_iso (z_cons (z_int rfl) (z_cons (z_int rfl) (z_cons (z_str rfl) (z_cons (z_slice rfl) z_nil0)))) rfl) (bld_nil)))))))) ?_
    refine o_weak (H' := [.obj true z1 0 (.dat T_api_Event_rep) T_api_Event_zero, .obj true z4 0 (.dat T_api_Event_rep) z2, .obj false 0 0 (gfact 0 Rep.intE ()) (), .obj false 0 0 (gfact 1 Rep.ifcE ()) (), .obj false 0 0 (gfact 2 Rep.ifcE ()) ()]) (sub_pick [4, 0, 1, 2, 3] rfl rfl) ?_
    refine o_ostore type30 foc_self guard_none (look_tmp rfl) (fun _ => rfl) (look_tmp rfl) (fun _ => rfl) ?_
    refine o_assign rfl rfl guard_none (look_int rfl) (fun _ => rfl) ?_
    refine o_end ?_
    refine den_code_ret ?_
    refine dene_ret ?_
    exact dene_resI () (res2 rfl (rv_cell 0 type30 rfl rfl) (rv_tmp rfl)) (fun _ _ _ k => ato_pick [] rfl rfl k)
  · refine den_skip ?_
    refine den_seq ?_
    refine den_region rfl ?_
    refine o_oloadi 0 rfl type30 foc_self rfl guard_none (look_tmp rfl) (fun _ => rfl) ?_
    refine o_weak (H' := [.obj true z1 0 (.dat T_api_Event_rep) T_api_Event_zero, .obj true z4 0 (.dat T_api_Event_rep) z2, .obj false 0 0 (gfact 0 Rep.intE ()) (), .obj false 0 0 (gfact 1 Rep.ifcE ()) (), .obj false 0 0 (gfact 2 Rep.ifcE ()) ()]) (sub_pick [4, 0, 1, 2, 3] rfl rfl) ?_
    refine o_ostore type30 foc_self guard_none (look_tmp rfl) (fun _ => rfl) (look_tmp rfl) (fun _ => rfl) ?_
    refine o_assign rfl rfl guard_none (look_int rfl) (fun _ => rfl) ?_
    refine o_end ?_
    refine den_code_ret ?_
    exact dene_resI () (res2 rfl (rv_cell 0 type30 rfl rfl) (rv_tmp rfl)) (fun _ _ _ k => ato_pick [] rfl rfl k)

theorem strings_Cut_ok (s : Bytes) (sep : Bytes) : FunOkI Tryz.prog 19 [⟨Rep.str, s, true⟩, ⟨Rep.str, sep, true⟩] [.obj false 0 0 (gfact 0 Rep.intE ()) ()] (strings_Cut s sep) (Rep.trip (Rep.str) (Rep.str) (Rep.bool)) (fun (α : Unit) (y : (Bytes × Bytes × Bool)) => y) (fun α y => []) := scut_ok sh_laysM145 rfl rfl s sep

theorem script_Read_ok  (s_0 : Bytes) : FunOkI Tryz.prog 9 [⟨Rep.str, s_0, true⟩] [.obj false 0 0 (gfact 0 Rep.intE ()) (), .obj false 0 0 (gfact 1 Rep.ifcE ()) (), .obj false 0 0 (gfact 2 Rep.ifcE ()) ()] (script_Read s_0) (Rep.pair (Rep.val1) (Rep.int .i64)) (fun (α : Value) (y : ((List T_api_Event) × Int)) => (α, y.2)) (fun α y => [.vec α (T_api_Event_rep) y.1]) := by
  refine fun_okI Tryz.func9 rfl Tryz.ntmps9 rfl (all_cons rfl all_nil) (fun w0 ok0 M => ?_)
  refine den_seq ?_
  refine den_region rfl ?_
  refine o_assign rfl rfl guard_none look_nil1 (fun _ => rfl) ?_
  refine o_assign rfl rfl guard_none (look_int rfl) (fun _ => rfl) ?_
  refine o_end ?_
  refine den_seq ?_
  refine den_seq ?_
  refine den_region rfl ?_
  refine o_move rfl rfl guard_none (look_tmp rfl) (fun _ => rfl) ?_
  refine o_slen Tryz.underlying9 rfl rfl guard_none (look_tmp rfl) (fun _ => rfl) ?_
  refine o_gtr rfl rfl guard_none (look_tmp rfl) (look_int rfl) (fun _ => rfl) (fun _ => rfl) ?_
  refine o_end ?_
  refine den_cond (look_tmp rfl) ?_ ?_
  · refine den_seq ?_
    refine den_region rfl ?_
    refine o_assign rfl rfl guard_none look_nil1 (fun _ => rfl) ?_
    refine o_assign rfl rfl guard_none (look_int rfl) (fun _ => rfl) ?_
    refine o_end ?_
    refine den_code_ret ?_
    refine dene_ret ?_
    refine dene_weak (sub_nilvec (R := T_api_Event_rep) rfl) ?_
    exact dene_resI (Value.slice none 0 0) (res2 rfl (rv_tmp rfl) (rv_tmp rfl)) (fun _ _ _ k => ato_pick [0] rfl rfl k)
  · refine den_skip ?_
    refine den_seq ?_
    refine den_region rfl ?_
    refine o_assign rfl rfl guard_none look_nil1 (fun _ => rfl) ?_
    refine o_end ?_
    refine den_seq ?_
    refine den_bothA (A := Value) (fun z1α z1 => [(4, ⟨Rep.val1, z1α, true⟩)]) (fun z1α z1 => [.obj false 0 0 (gfact 0 Rep.intE ()) (), .obj false 0 0 (gfact 1 Rep.ifcE ()) (), .obj false 0 0 (gfact 2 Rep.ifcE ()) (), .vec z1α (T_api_Event_rep) z1]) ?_ (fun z1α z1 => ?_)
    · refine den_block ?_
      refine den_loopA (A := Value) (script_Read_L1b ) (fun z2α z2 => [(0, ⟨Rep.str, z2.1, true⟩), (4, ⟨Rep.val1, z2α, true⟩)]) (fun z2α z2 => [.obj false 0 0 (gfact 0 Rep.intE ()) (), .obj false 0 0 (gfact 1 Rep.ifcE ()) (), .obj false 0 0 (gfact 2 Rep.ifcE ()) (), .vec z2α (T_api_Event_rep) z2.2]) (s_0, ([] : (List T_api_Event))) (Value.slice none 0 0) (fun z2α z2 => ?_) ((Sub.trans (sub_nilvec (R := T_api_Event_rep) rfl) (Sub.trans (sub_pick [1, 2, 3, 0] rfl rfl) (sub_env (sube_cons rfl (sube_cons rfl (sube_nil)))))))
      refine den_seq ?_
      refine den_seq ?_
      refine den_region rfl ?_
      refine o_move rfl rfl guard_none (look_tmp rfl) (fun _ => rfl) ?_
      refine o_sneq rfl rfl guard_none (look_tmp rfl) (look_str (l := []) rfl (by decide)) (fun _ => rfl) (fun _ => rfl) ?_
      refine o_end ?_
      refine den_cond (look_tmp rfl) ?_ ?_
      · refine den_skip ?_
        refine den_block ?_
        refine den_seq ?_
        refine den_region rfl ?_
        refine o_move rfl rfl guard_none (look_tmp rfl) (fun _ => rfl) ?_
        refine o_weak (H' := [] ++ ([.obj false 0 0 (gfact 0 Rep.intE ()) ()] ++ [.obj false 0 0 (gfact 1 Rep.ifcE ()) (), .obj false 0 0 (gfact 2 Rep.ifcE ()) (), .vec z2α (T_api_Event_rep) z2.2])) (sub_pick [0, 1, 2, 3] rfl rfl) ?_
        refine o_callU rfl rfl rfl rfl rfl callable19 (looks_cons (look_tmp rfl) (fun _ => rfl) (looks_cons (look_str (l := [10]) rfl (by decide)) (fun _ => rfl) (looks_nil))) (.cons .nil) (strings_Cut_ok z2.1 ([10] : Bytes)) (fun _ _ => wr_n) (fun z4α z3 => ?_)
        refine o_weak (H' := [.obj false 0 0 (gfact 0 Rep.intE ()) (), .obj false 0 0 (gfact 1 Rep.ifcE ()) (), .obj false 0 0 (gfact 2 Rep.ifcE ()) (), .vec z2α (T_api_Event_rep) z2.2]) (sub_pick [0, 1, 2, 3] rfl rfl) ?_
        refine o_move rfl rfl guard_none (look_tmp rfl) (fun _ => rfl) ?_
        refine o_fst3 rfl rfl guard_none (look_tmp rfl) (fun _ => rfl) ?_
        refine o_snd3 rfl rfl guard_none (look_tmp rfl) (fun _ => rfl) ?_
        refine o_thd3 rfl rfl guard_none (look_tmp rfl) (fun _ => rfl) ?_
        refine o_assign rfl rfl guard_none (look_tmp rfl) (fun _ => rfl) ?_
        refine o_assign rfl rfl guard_none (look_tmp rfl) (fun _ => rfl) ?_
        refine o_assign rfl rfl guard_none (look_tmp rfl) (fun _ => rfl) ?_
        refine o_end ?_
        refine den_seq ?_
        refine den_region rfl ?_
        refine o_move rfl rfl guard_none (look_tmp rfl) (fun _ => rfl) ?_
        refine o_weak (H' := [] ++ ([.obj false 0 0 (gfact 0 Rep.intE ()) (), .obj false 0 0 (gfact 1 Rep.ifcE ()) (), .obj false 0 0 (gfact 2 Rep.ifcE ()) ()] ++ [.vec z2α (T_api_Event_rep) z2.2])) (sub_pick [0, 1, 2, 3] rfl rfl) ?_
        refine o_callU rfl rfl rfl rfl rfl callable7 (looks_cons (look_tmp rfl) (fun _ => rfl) (looks_nil)) (.cons (.cons (.cons .nil))) (script_Parse_ok z3.1) (fun _ _ => wr_n) (fun z6α z5 => ?_)
        refine o_weak (H' := [.obj false 0 0 (gfact 0 Rep.intE ()) (), .obj false 0 0 (gfact 1 Rep.ifcE ()) (), .obj false 0 0 (gfact 2 Rep.ifcE ()) (), .vec z2α (T_api_Event_rep) z2.2]) (sub_pick [0, 1, 2, 3] rfl rfl) ?_
        refine o_move rfl rfl guard_none (look_tmp rfl) (fun _ => rfl) ?_
        refine o_fst rfl rfl guard_none (look_tmp rfl) (fun _ => rfl) ?_
        refine o_snd rfl rfl guard_none (look_tmp rfl) (fun _ => rfl) ?_
        refine o_alloc zero30 rfl rfl (fun z7 => ?_)
        refine o_ostore type30 foc_self guard_none (look_tmp rfl) (fun _ => rfl) (look_tmp rfl) (fun _ => rfl) ?_
        refine o_assign rfl rfl guard_none (look_tmp rfl) (fun _ => rfl) ?_
        refine o_end ?_
        refine den_seq ?_
        refine den_seq ?_
        refine den_region rfl ?_
        refine o_move rfl rfl guard_none (look_tmp rfl) (fun _ => rfl) ?_
        refine o_not rfl rfl guard_none (look_tmp rfl) (fun _ => rfl) ?_
        refine o_move rfl rfl guard_none (look_tmp rfl) (fun _ => rfl) ?_
        refine o_move rfl rfl (guard_some rfl rfl rfl) (look_tmp rfl) (fun _ => rfl) ?_
        refine o_neq rfl rfl (guard_some rfl rfl rfl) (look_tmp rfl) (look_int rfl) (fun h => h) (fun _ => rfl) ?_
        refine o_pick rfl rfl guard_none (look_tmp rfl) look_bool (look_tmp rfl) (fun _ => rfl) (fun _ _ => rfl) (fun h1 h2 => pick_f ((fun _ => rfl) h1) h2) ?_
        refine o_end ?_
        refine den_cond (look_tmp rfl) ?_ ?_
        · refine den_seq ?_
          refine den_region rfl ?_
          refine o_assign rfl rfl guard_none look_nil1 (fun _ => rfl) ?_
          refine o_assign rfl rfl guard_none (look_int rfl) (fun _ => rfl) ?_
          refine o_end ?_
          refine den_code_ret ?_
          refine dene_ret ?_
          refine dene_loopA (by simp) ?_
          refine dene_ret ?_
          refine dene_bothA (by simp) ?_
          refine dene_ret ?_
          refine dene_weak (sub_nilvec (R := T_api_Event_rep) rfl) ?_
          exact dene_resI (Value.slice none 0 0) (res2 rfl (rv_tmp rfl) (rv_tmp rfl)) (fun _ _ _ k => ato_pick [0] rfl rfl k)
        · refine den_skip ?_
          refine den_region rfl ?_
          refine o_move rfl rfl guard_none (look_tmp rfl) (fun _ => rfl) ?_
          refine o_oloadi 0 rfl type30 foc_self rfl guard_none (look_tmp rfl) (fun _ => rfl) ?_
          refine o_bslice Tryz.underlying22 (info_i info30) (info_z info30) type30 rfl rfl rfl rfl rfl rfl guard_none (looksL_cons (look_tmp rfl) (fun _ => rfl) (looksL_nil)) ?_
          refine o_weak (H' := [.vec z2α (T_api_Event_rep) z2.2, .obj true z7 0 (.dat T_api_Event_rep) z5.1, .obj false 0 0 (gfact 0 Rep.intE ()) (), .obj false 0 0 (gfact 1 Rep.ifcE ()) (), .obj false 0 0 (gfact 2 Rep.ifcE ()) ()]) (sub_pick [4, 0, 1, 2, 3] rfl rfl) ?_
          refine o_append Tryz.underlying22 (info_i info30) (info_z info30) (info_all info30).2.1 rfl (info_all info30).2.2 rfl (look_tmp rfl) rfl (feeds_slice Tryz.underlying22 rfl (look_tmp rfl) rfl) (fun z9 z8 => ?_)
          refine o_move rfl rfl guard_none (look_tmp rfl) (fun _ => rfl) ?_
          refine o_assign rfl rfl guard_none (look_tmp rfl) (fun _ => rfl) ?_
          refine o_assign rfl rfl guard_none (look_tmp rfl) (fun _ => rfl) ?_
          refine o_end ?_
          refine den_blkend ?_
          refine den_nextA z9 ((Sub.trans (sub_pick [2, 3, 4, 0] rfl rfl) (sub_env (sube_cons rfl (sube_cons rfl (sube_nil))))))
      · refine den_code_exit ?_
        refine dene_out rfl ?_
        refine dene_loopA (by simp) ?_
        refine dene_to rfl ?_
        refine den_endlA z2α ((sub_env (sube_cons rfl (sube_nil))))
    refine den_seq ?_
    refine den_seq ?_
    refine den_region rfl ?_
    refine o_move rfl rfl guard_none (look_tmp rfl) (fun _ => rfl) ?_
    refine o_vlen 3 (.inl rfl) Tryz.underlying22 rfl guard_none (look_tmp rfl) (fun _ => rfl) ?_
    refine o_gtr rfl rfl guard_none (look_tmp rfl) (look_int rfl) (fun _ => rfl) (fun _ => rfl) ?_
    refine o_end ?_
    refine den_cond (look_tmp rfl) ?_ ?_
    · refine den_seq ?_
      refine den_region rfl ?_
      refine o_assign rfl rfl guard_none look_nil1 (fun _ => rfl) ?_
      refine o_assign rfl rfl guard_none (look_int rfl) (fun _ => rfl) ?_
      refine o_end ?_
      refine den_code_ret ?_
      refine dene_ret ?_
      refine dene_weak (sub_nilvec (R := T_api_Event_rep) rfl) ?_
      exact dene_resI (Value.slice none 0 0) (res2 rfl (rv_tmp rfl) (rv_tmp rfl)) (fun _ _ _ k => ato_pick [0] rfl rfl k)
    · refine den_skip ?_
      refine den_seq ?_
      refine den_region rfl ?_
      refine o_move rfl rfl guard_none (look_tmp rfl) (fun _ => rfl) ?_
      refine o_assign rfl rfl guard_none (look_tmp rfl) (fun _ => rfl) ?_
      refine o_assign rfl rfl guard_none (look_int rfl) (fun _ => rfl) ?_
      refine o_end ?_
      refine den_code_ret ?_
      exact dene_resI z1α (res2 rfl (rv_tmp rfl) (rv_tmp rfl)) (fun _ _ _ k => ato_pick [3] rfl rfl k)

theorem law28_alive_ok   : FunOkI Tryz.prog 4 [] [.obj false 0 0 (gfact 0 Rep.intE ()) (), .obj false 0 0 (gfact 1 Rep.ifcE ()) (), .obj false 0 0 (gfact 2 Rep.ifcE ()) ()] (law28_alive) (Rep.bool) (fun (α : Unit) (y : Bool) => y) (fun α y => []) := by
  refine fun_okI Tryz.func4 rfl Tryz.ntmps4 rfl all_nil (fun w0 ok0 M => ?_)
  refine den_seq ?_
  refine den_region rfl ?_
  refine o_assign rfl rfl guard_none look_bool (fun _ => rfl) ?_
  refine o_end ?_
  refine den_seq ?_
  refine den_region rfl ?_
  refine o_build (R := T_api_Event_rep0) (f := T_api_Event_tup) (y := (⟨5, 2, 1, [], [], ([114, 101, 97, 100] : Bytes), T_api_Value_zero⟩ : T_api_Event)) shape30 rfl rfl rfl rfl guard_none (bld_part rfl rfl (look_int rfl) (fun _ => rfl) (bld_part rfl rfl (look_int rfl) (fun _ => rfl) (bld_part rfl rfl (look_int rfl) (fun _ => rfl) (bld_zero (z_str rfl) (bld_zero (z_str rfl) (bld_part rfl rfl (look_str (l := [114, 101, 97, 100]) rfl (by decide)) (fun _ => rfl) (bld_zero (z_iso (z_cons (z_int rfl) (z_cons (z_int rfl) (z_cons (z_str rfl) (z_cons (z_slice rfl) z_nil0)))) rfl) (bld_nil)))))))) ?_
  refine o_call rfl rfl rfl callable11 (looks_cons (look_tmp rfl) (fun _ => rfl) (looks_nil)) (script_Line_ok _) (fun z1 => ?_)
  refine o_move rfl rfl guard_none (look_tmp rfl) (fun _ => rfl) ?_
  refine o_fst rfl rfl guard_none (look_tmp rfl) (fun _ => rfl) ?_
  refine o_snd rfl rfl guard_none (look_tmp rfl) (fun _ => rfl) ?_
  refine o_assign rfl rfl guard_none (look_tmp rfl) (fun _ => rfl) ?_
  refine o_assign rfl rfl guard_none (look_tmp rfl) (fun _ => rfl) ?_
  refine o_end ?_
  refine den_seq ?_
  refine den_region rfl ?_
  refine o_weak (H' := [] ++ ([.obj false 0 0 (gfact 0 Rep.intE ()) (), .obj false 0 0 (gfact 1 Rep.ifcE ()) (), .obj false 0 0 (gfact 2 Rep.ifcE ()) ()] ++ [])) (sub_pick [0, 1, 2] rfl rfl) ?_
  refine o_callU rfl rfl rfl rfl rfl callable7 (looks_cons (look_str (l := [55, 32, 116, 105, 99, 107]) rfl (by decide)) (fun _ => rfl) (looks_nil)) (.cons (.cons (.cons .nil))) (script_Parse_ok ([55, 32, 116, 105, 99, 107] : Bytes)) (fun _ _ => wr_n) (fun z3α z2 => ?_)
  refine o_weak (H' := [.obj false 0 0 (gfact 0 Rep.intE ()) (), .obj false 0 0 (gfact 1 Rep.ifcE ()) (), .obj false 0 0 (gfact 2 Rep.ifcE ()) ()]) (sub_pick [0, 1, 2] rfl rfl) ?_
  refine o_move rfl rfl guard_none (look_tmp rfl) (fun _ => rfl) ?_
  refine o_fst rfl rfl guard_none (look_tmp rfl) (fun _ => rfl) ?_
  refine o_snd rfl rfl guard_none (look_tmp rfl) (fun _ => rfl) ?_
  refine o_alloc zero30 rfl rfl (fun z4 => ?_)
  refine o_ostore type30 foc_self guard_none (look_tmp rfl) (fun _ => rfl) (look_tmp rfl) (fun _ => rfl) ?_
  refine o_assign rfl rfl guard_none (look_tmp rfl) (fun _ => rfl) ?_
  refine o_end ?_
  refine den_seq ?_
  refine den_region rfl ?_
  refine o_weak (H' := [] ++ ([.obj false 0 0 (gfact 0 Rep.intE ()) (), .obj false 0 0 (gfact 1 Rep.ifcE ()) (), .obj false 0 0 (gfact 2 Rep.ifcE ()) ()] ++ [.obj true z4 0 (.dat T_api_Event_rep) z2.1])) (sub_pick [1, 2, 3, 0] rfl rfl) ?_
  refine o_callU rfl rfl rfl rfl rfl callable9 (looks_cons (look_str (l := [55, 32, 116, 105, 99, 107, 10, 56, 32, 116, 105, 99, 107, 10]) rfl (by decide)) (fun _ => rfl) (looks_nil)) (.cons (.cons (.cons .nil))) (script_Read_ok ([55, 32, 116, 105, 99, 107, 10, 56, 32, 116, 105, 99, 107, 10] : Bytes)) (fun _ _ => (wr_v wr_n)) (fun z6α z5 => ?_)
  refine o_weak (H' := [.vec z6α (T_api_Event_rep) z5.1, .obj false 0 0 (gfact 0 Rep.intE ()) (), .obj false 0 0 (gfact 1 Rep.ifcE ()) (), .obj false 0 0 (gfact 2 Rep.ifcE ()) (), .obj true z4 0 (.dat T_api_Event_rep) z2.1]) (sub_pick [0, 1, 2, 3, 4] rfl rfl) ?_
  refine o_move rfl rfl guard_none (look_tmp rfl) (fun _ => rfl) ?_
  refine o_fst rfl rfl guard_none (look_tmp rfl) (fun _ => rfl) ?_
  refine o_snd rfl rfl guard_none (look_tmp rfl) (fun _ => rfl) ?_
  refine o_assign rfl rfl guard_none (look_tmp rfl) (fun _ => rfl) ?_
  refine o_assign rfl rfl guard_none (look_tmp rfl) (fun _ => rfl) ?_
  refine o_end ?_
  refine den_seq ?_
  refine den_region rfl ?_
  refine o_move rfl rfl guard_none (look_tmp rfl) (fun _ => rfl) ?_
  refine o_eql rfl rfl guard_none (look_tmp rfl) (look_int rfl) (fun _ => rfl) (fun _ => rfl) ?_
  refine o_move rfl rfl guard_none (look_tmp rfl) (fun _ => rfl) ?_
  refine o_move rfl rfl (guard_some rfl rfl rfl) (look_tmp rfl) (fun _ => rfl) ?_
  refine o_seql rfl rfl (guard_some rfl rfl rfl) (look_tmp rfl) (look_str (l := [53, 32, 117, 115, 101, 32, 49, 32, 114, 101, 97, 100]) rfl (by decide)) (fun h => h) (fun _ => rfl) ?_
  refine o_pick rfl rfl guard_none (look_tmp rfl) (look_tmp rfl) look_bool (fun _ => rfl) (fun h1 h2 => pick_t ((fun _ => rfl) h1) h2) (fun _ _ => rfl) ?_
  refine o_move rfl rfl guard_none (look_tmp rfl) (fun _ => rfl) ?_
  refine o_move rfl rfl (guard_some rfl rfl rfl) (look_tmp rfl) (fun _ => rfl) ?_
  refine o_eql rfl rfl (guard_some rfl rfl rfl) (look_tmp rfl) (look_int rfl) (fun h => h) (fun _ => rfl) ?_
  refine o_pick rfl rfl guard_none (look_tmp rfl) (look_tmp rfl) look_bool (fun _ => rfl) (fun h1 h2 => pick_t ((fun _ => rfl) h1) h2) (fun _ _ => rfl) ?_
  refine o_move rfl rfl guard_none (look_tmp rfl) (fun _ => rfl) ?_
  refine o_faddr field30_0 type2 (by decide) rfl rfl (guard_some rfl rfl rfl) (look_tmp rfl) (fun _ => rfl) ?_
  refine o_oloadi 4 rfl type2 T_api_Event_foc0 rfl (guard_some rfl rfl rfl) (look_tmp rfl) (fun h => h) ?_
  refine o_eql rfl rfl (guard_some rfl rfl rfl) (look_tmp rfl) (look_int rfl) (fun h => h) (fun _ => rfl) ?_
  refine o_pick rfl rfl guard_none (look_tmp rfl) (look_tmp rfl) look_bool (fun _ => rfl) (fun h1 h2 => pick_t ((fun _ => rfl) h1) h2) (fun _ _ => rfl) ?_
  refine o_move rfl rfl guard_none (look_tmp rfl) (fun _ => rfl) ?_
  refine o_faddr field30_1 type3 (by decide) rfl rfl (guard_some rfl rfl rfl) (look_tmp rfl) (fun _ => rfl) ?_
  refine o_oloadi 4 rfl type3 T_api_Event_foc1 rfl (guard_some rfl rfl rfl) (look_tmp rfl) (fun h => h) ?_
  refine o_eql rfl rfl (guard_some rfl rfl rfl) (look_tmp rfl) (look_int rfl) (fun h => h) (fun _ => rfl) ?_
  refine o_pick rfl rfl guard_none (look_tmp rfl) (look_tmp rfl) look_bool (fun _ => rfl) (fun h1 h2 => pick_t ((fun _ => rfl) h1) h2) (fun _ _ => rfl) ?_
  refine o_move rfl rfl guard_none (look_tmp rfl) (fun _ => rfl) ?_
  refine o_move rfl rfl (guard_some rfl rfl rfl) (look_tmp rfl) (fun _ => rfl) ?_
  refine o_eql rfl rfl (guard_some rfl rfl rfl) (look_tmp rfl) (look_int rfl) (fun h => h) (fun _ => rfl) ?_
  refine o_pick rfl rfl guard_none (look_tmp rfl) (look_tmp rfl) look_bool (fun _ => rfl) (fun h1 h2 => pick_t ((fun _ => rfl) h1) h2) (fun _ _ => rfl) ?_
  refine o_move rfl rfl guard_none (look_tmp rfl) (fun _ => rfl) ?_
  refine o_move rfl rfl (guard_some rfl rfl rfl) (look_tmp rfl) (fun _ => rfl) ?_
  refine o_vlen 0 (.inl rfl) Tryz.underlying22 rfl (guard_some rfl rfl rfl) (look_tmp rfl) (fun h => h) ?_
  refine o_eql rfl rfl (guard_some rfl rfl rfl) (look_tmp rfl) (look_int rfl) (fun h => h) (fun _ => rfl) ?_
  refine o_pick rfl rfl guard_none (look_tmp rfl) (look_tmp rfl) look_bool (fun _ => rfl) (fun h1 h2 => pick_t ((fun _ => rfl) h1) h2) (fun _ _ => rfl) ?_
  refine o_assign rfl rfl guard_none (look_tmp rfl) (fun _ => rfl) ?_
  refine o_lt (fun z8 => ?_)
  refine o_end ?_
  refine den_code_ret ?_
  exact dene_resI () (res1 rfl (rv_tmp rfl)) (fun _ _ _ k => ato_pick [] rfl rfl k)

theorem ref06_head_ok  (c_0 : Int) : FunOk Tryz.prog 41 [⟨Rep.int .u8, c_0, true⟩] (ref06_head c_0) (Rep.bool) := by
  refine fun_ok Tryz.func41 rfl Tryz.ntmps41 rfl (all_cons rfl all_nil) (fun w0 ok0 => ?_)
  refine den_seq ?_
  refine den_region rfl ?_
  refine o_assign rfl rfl guard_none look_bool (fun _ => rfl) ?_
  refine o_end ?_
  refine den_seq ?_
  refine den_region rfl ?_
  refine o_move rfl rfl guard_none (look_tmp rfl) (fun _ => rfl) ?_
  refine o_geq rfl rfl guard_none (look_tmp rfl) (look_int rfl) (fun _ => rfl) (fun _ => rfl) ?_
  refine o_move rfl rfl guard_none (look_tmp rfl) (fun _ => rfl) ?_
  refine o_move rfl rfl (guard_some rfl rfl rfl) (look_tmp rfl) (fun _ => rfl) ?_
  refine o_leq rfl rfl (guard_some rfl rfl rfl) (look_tmp rfl) (look_int rfl) (fun h => h) (fun _ => rfl) ?_
  refine o_pick rfl rfl guard_none (look_tmp rfl) (look_tmp rfl) look_bool (fun _ => rfl) (fun h1 h2 => pick_t ((fun _ => rfl) h1) h2) (fun _ _ => rfl) ?_
  refine o_move rfl rfl guard_none (look_tmp rfl) (fun _ => rfl) ?_
  refine o_move rfl rfl (guard_some rfl rfl rfl) (look_tmp rfl) (fun _ => rfl) ?_
  refine o_geq rfl rfl (guard_some rfl rfl rfl) (look_tmp rfl) (look_int rfl) (fun h => h) (fun _ => rfl) ?_
  refine o_move rfl rfl (guard_some rfl rfl rfl) (look_tmp rfl) (fun h => h) ?_
  refine o_move rfl rfl (guard_some rfl rfl rfl) (look_tmp rfl) (fun _ => rfl) ?_
  refine o_leq rfl rfl (guard_some rfl rfl rfl) (look_tmp rfl) (look_int rfl) (fun h => h) (fun _ => rfl) ?_
  refine o_pick rfl rfl (guard_some rfl rfl rfl) (look_tmp rfl) (look_tmp rfl) look_bool (fun h => h) (fun h1 h2 => pick_t ((fun h => h) h1) h2) (fun _ _ => rfl) ?_
  refine o_pick rfl rfl guard_none (look_tmp rfl) look_bool (look_tmp rfl) (fun _ => rfl) (fun _ _ => rfl) (fun h1 h2 => pick_f ((fun _ => rfl) h1) h2) ?_
  refine o_move rfl rfl guard_none (look_tmp rfl) (fun _ => rfl) ?_
  refine o_move rfl rfl (guard_some rfl rfl rfl) (look_tmp rfl) (fun _ => rfl) ?_
  refine o_eql rfl rfl (guard_some rfl rfl rfl) (look_tmp rfl) (look_int rfl) (fun h => h) (fun _ => rfl) ?_
  refine o_pick rfl rfl guard_none (look_tmp rfl) look_bool (look_tmp rfl) (fun _ => rfl) (fun _ _ => rfl) (fun h1 h2 => pick_f ((fun _ => rfl) h1) h2) ?_
  refine o_assign rfl rfl guard_none (look_tmp rfl) (fun _ => rfl) ?_
  refine o_lt (fun z1 => ?_)
  refine o_end ?_
  refine den_code_ret ?_
  exact dene_res (res1 rfl (rv_tmp rfl))

theorem ref06_tail_ok  (c_0 : Int) : FunOk Tryz.prog 42 [⟨Rep.int .u8, c_0, true⟩] (ref06_tail c_0) (Rep.bool) := by
  refine fun_ok Tryz.func42 rfl Tryz.ntmps42 rfl (all_cons rfl all_nil) (fun w0 ok0 => ?_)
  refine den_seq ?_
  refine den_region rfl ?_
  refine o_assign rfl rfl guard_none look_bool (fun _ => rfl) ?_
  refine o_end ?_
  refine den_seq ?_
  refine den_region rfl ?_
  refine o_move rfl rfl guard_none (look_tmp rfl) (fun _ => rfl) ?_
  refine o_call rfl rfl rfl callable41 (looks_cons (look_tmp rfl) (fun _ => rfl) (looks_nil)) (ref06_head_ok _) (fun z1 => ?_)
  refine o_move rfl rfl guard_none (look_tmp rfl) (fun _ => rfl) ?_
  refine o_move rfl rfl (guard_some rfl rfl rfl) (look_tmp rfl) (fun _ => rfl) ?_
  refine o_geq rfl rfl (guard_some rfl rfl rfl) (look_tmp rfl) (look_int rfl) (fun h => h) (fun _ => rfl) ?_
  refine o_move rfl rfl (guard_some rfl rfl rfl) (look_tmp rfl) (fun h => h) ?_
  refine o_move rfl rfl (guard_some rfl rfl rfl) (look_tmp rfl) (fun _ => rfl) ?_
  refine o_leq rfl rfl (guard_some rfl rfl rfl) (look_tmp rfl) (look_int rfl) (fun h => h) (fun _ => rfl) ?_
  refine o_pick rfl rfl (guard_some rfl rfl rfl) (look_tmp rfl) (look_tmp rfl) look_bool (fun h => h) (fun h1 h2 => pick_t ((fun h => h) h1) h2) (fun _ _ => rfl) ?_
  refine o_pick rfl rfl guard_none (look_tmp rfl) look_bool (look_tmp rfl) (fun _ => rfl) (fun _ _ => rfl) (fun h1 h2 => pick_f ((fun _ => rfl) h1) h2) ?_
  refine o_assign rfl rfl guard_none (look_tmp rfl) (fun _ => rfl) ?_
  refine o_lt (fun z2 => ?_)
  refine o_end ?_
  refine den_code_ret ?_
  exact dene_res (res1 rfl (rv_tmp rfl))

theorem ref06_Name_ok  (s_0 : Bytes) : FunOk Tryz.prog 25 [⟨Rep.str, s_0, true⟩] (ref06_Name s_0) (Rep.bool) := by
  refine fun_ok Tryz.func25 rfl Tryz.ntmps25 rfl (all_cons rfl all_nil) (fun w0 ok0 => ?_)
  refine den_seq ?_
  refine den_region rfl ?_
  refine o_assign rfl rfl guard_none look_bool (fun _ => rfl) ?_
  refine o_end ?_
  refine den_seq ?_
  refine den_seq ?_
  refine den_region rfl ?_
  refine o_move rfl rfl guard_none (look_tmp rfl) (fun _ => rfl) ?_
  refine o_seql rfl rfl guard_none (look_tmp rfl) (look_str (l := []) rfl (by decide)) (fun _ => rfl) (fun _ => rfl) ?_
  refine o_move rfl rfl guard_none (look_tmp rfl) (fun _ => rfl) ?_
  refine o_move rfl rfl (guard_some rfl rfl rfl) (look_tmp rfl) (fun _ => rfl) ?_
  refine o_slen Tryz.underlying9 rfl rfl (guard_some rfl rfl rfl) (look_tmp rfl) (fun h => h) ?_
  refine o_gtr rfl rfl (guard_some rfl rfl rfl) (look_tmp rfl) (look_int rfl) (fun h => h) (fun _ => rfl) ?_
  refine o_pick rfl rfl guard_none (look_tmp rfl) look_bool (look_tmp rfl) (fun _ => rfl) (fun _ _ => rfl) (fun h1 h2 => pick_f ((fun _ => rfl) h1) h2) ?_
  refine o_move rfl rfl guard_none (look_tmp rfl) (fun _ => rfl) ?_
  refine o_move rfl rfl (guard_some rfl rfl rfl) (look_tmp rfl) (fun _ => rfl) ?_
  refine o_sidxg Tryz.underlying9 rfl rfl (guard_some rfl rfl rfl) (look_tmp rfl) (look_int rfl) (fun h => h) (fun _ => rfl) (fun z1 => ?_)
  refine o_callg rfl rfl rfl (guard_some rfl rfl rfl) callable41 (looks_cons (look_tmp rfl) (fun h => h) (looks_nil)) (ref06_head_ok _) (fun z2 => ?_)
  refine o_not rfl rfl (guard_some rfl rfl rfl) (look_tmp rfl) (fun h => h) ?_
  refine o_pick rfl rfl guard_none (look_tmp rfl) look_bool (look_tmp rfl) (fun _ => rfl) (fun _ _ => rfl) (fun h1 h2 => pick_f ((fun _ => rfl) h1) h2) ?_
  refine o_end ?_
  refine den_cond (look_tmp rfl) ?_ ?_
  · refine den_seq ?_
    refine den_region rfl ?_
    refine o_assign rfl rfl guard_none look_bool (fun _ => rfl) ?_
    refine o_end ?_
    refine den_code_ret ?_
    refine dene_ret ?_
    exact dene_res (res1 rfl (rv_tmp rfl))
  · refine den_skip ?_
    refine den_seq ?_
    refine den_seq ?_
    refine den_region rfl ?_
    refine o_assign rfl rfl guard_none (look_int rfl) (fun _ => rfl) ?_
    refine o_end ?_
    refine den_both (fun z3 => []) (fun z3 => []) ?_ (fun z3 => ?_)
    · refine den_block ?_
      refine den_loop (ref06_Name_L1b s_0) (fun z4 => [(3, ⟨Rep.int .i64, z4, true⟩), (0, ⟨Rep.str, s_0, true⟩)]) (fun z4 => []) 1 (fun z4 => ?_) ((sub_env (sube_cons rfl (sube_cons rfl (sube_nil)))))
      refine den_seq ?_
      refine den_seq ?_
      refine den_region rfl ?_
      refine o_move rfl rfl guard_none (look_tmp rfl) (fun _ => rfl) ?_
      refine o_move rfl rfl guard_none (look_tmp rfl) (fun _ => rfl) ?_
      refine o_slen Tryz.underlying9 rfl rfl guard_none (look_tmp rfl) (fun _ => rfl) ?_
      refine o_lss rfl rfl guard_none (look_tmp rfl) (look_tmp rfl) (fun _ => rfl) (fun _ => rfl) ?_
      refine o_end ?_
      refine den_cond (look_tmp rfl) ?_ ?_
      · refine den_skip ?_
        refine den_seq ?_
        refine den_block ?_
        refine den_seq ?_
        refine den_region rfl ?_
        refine o_move rfl rfl guard_none (look_tmp rfl) (fun _ => rfl) ?_
        refine o_move rfl rfl guard_none (look_tmp rfl) (fun _ => rfl) ?_
        refine o_sidx Tryz.underlying9 rfl rfl (look_tmp rfl) (look_tmp rfl) rfl rfl (fun z5 => ?_)
        refine o_call rfl rfl rfl callable42 (looks_cons (look_tmp rfl) (fun _ => rfl) (looks_nil)) (ref06_tail_ok _) (fun z6 => ?_)
        refine o_not rfl rfl guard_none (look_tmp rfl) (fun _ => rfl) ?_
        refine o_end ?_
        refine den_cond (look_tmp rfl) ?_ ?_
        · refine den_seq ?_
          refine den_region rfl ?_
          refine o_assign rfl rfl guard_none look_bool (fun _ => rfl) ?_
          refine o_end ?_
          refine den_code_ret ?_
          refine dene_ret ?_
          refine dene_loop (by simp) ?_
          refine dene_ret ?_
          refine dene_both (by simp) ?_
          refine dene_ret ?_
          exact dene_res (res1 rfl (rv_tmp rfl))
        · refine den_skip ?_
          refine den_blkend ?_
          refine den_region rfl ?_
          refine o_move rfl rfl guard_none (look_tmp rfl) (fun _ => rfl) ?_
          refine o_add rfl rfl guard_none (look_tmp rfl) (look_int rfl) (fun _ => rfl) (fun _ => rfl) ?_
          refine o_assign rfl rfl guard_none (look_tmp rfl) (fun _ => rfl) ?_
          refine o_end ?_
          refine den_next ((sub_env (sube_cons rfl (sube_cons rfl (sube_nil)))))
      · refine den_code_exit ?_
        refine dene_out rfl ?_
        refine dene_loop (by simp) ?_
        refine dene_to rfl ?_
        refine den_endl ((sub_env (sube_nil)))
    refine den_seq ?_
    refine den_region rfl ?_
    refine o_assign rfl rfl guard_none look_bool (fun _ => rfl) ?_
    refine o_end ?_
    refine den_code_ret ?_
    exact dene_res (res1 rfl (rv_tmp rfl))

theorem ref02_bad_ok  (l_0 : (List Bytes)) : FunOk Tryz.prog 43 [⟨(Rep.str).slice, l_0, true⟩] (ref02_bad l_0) (Rep.int .i64) := by
  refine fun_ok Tryz.func43 rfl Tryz.ntmps43 rfl (all_cons rfl all_nil) (fun w0 ok0 => ?_)
  refine den_seq ?_
  refine den_region rfl ?_
  refine o_assign rfl rfl guard_none (look_int rfl) (fun _ => rfl) ?_
  refine o_end ?_
  refine den_seq ?_
  refine den_seq ?_
  refine den_region rfl ?_
  refine o_assign rfl rfl guard_none (look_int rfl) (fun _ => rfl) ?_
  refine o_end ?_
  refine den_both (fun z1 => [(0, ⟨(Rep.str).slice, l_0, true⟩)]) (fun z1 => []) ?_ (fun z1 => ?_)
  · refine den_block ?_
    refine den_loop (ref02_bad_L2b l_0) (fun z6 => [(3, ⟨Rep.int .i64, z6, true⟩), (0, ⟨(Rep.str).slice, l_0, true⟩)]) (fun z6 => []) 0 (fun z6 => ?_) ((sub_env (sube_cons rfl (sube_cons rfl (sube_nil)))))
    refine den_seq ?_
    refine den_seq ?_
    refine den_region rfl ?_
    refine o_move rfl rfl guard_none (look_tmp rfl) (fun _ => rfl) ?_
    refine o_move rfl rfl guard_none (look_tmp rfl) (fun _ => rfl) ?_
    refine o_llen Tryz.underlying26 rfl rfl guard_none (look_tmp rfl) (fun _ => rfl) ?_
    refine o_lss rfl rfl guard_none (look_tmp rfl) (look_tmp rfl) (fun _ => rfl) (fun _ => rfl) ?_
    refine o_end ?_
    refine den_cond (look_tmp rfl) ?_ ?_
    · refine den_skip ?_
      refine den_seq ?_
      refine den_block ?_
      refine den_seq ?_
      refine den_region rfl ?_
      refine o_move rfl rfl guard_none (look_tmp rfl) (fun _ => rfl) ?_
      refine o_move rfl rfl guard_none (look_tmp rfl) (fun _ => rfl) ?_
      refine o_iaddr Tryz.underlying26 type9 rfl rfl (look_tmp rfl) (look_tmp rfl) rfl rfl (fun z7 => ?_)
      refine o_load type9 rfl rfl guard_none (look_tmp rfl) (fun _ => rfl) ?_
      refine o_slen Tryz.underlying9 rfl rfl guard_none (look_tmp rfl) (fun _ => rfl) ?_
      refine o_gtr rfl rfl guard_none (look_tmp rfl) (look_int rfl) (fun _ => rfl) (fun _ => rfl) ?_
      refine o_end ?_
      refine den_cond (look_tmp rfl) ?_ ?_
      · refine den_seq ?_
        refine den_region rfl ?_
        refine o_assign rfl rfl guard_none (look_int rfl) (fun _ => rfl) ?_
        refine o_end ?_
        refine den_code_ret ?_
        refine dene_ret ?_
        refine dene_loop (by simp) ?_
        refine dene_ret ?_
        refine dene_both (by simp) ?_
        refine dene_ret ?_
        exact dene_res (res1 rfl (rv_tmp rfl))
      · refine den_skip ?_
        refine den_blkend ?_
        refine den_region rfl ?_
        refine o_move rfl rfl guard_none (look_tmp rfl) (fun _ => rfl) ?_
        refine o_add rfl rfl guard_none (look_tmp rfl) (look_int rfl) (fun _ => rfl) (fun _ => rfl) ?_
        refine o_assign rfl rfl guard_none (look_tmp rfl) (fun _ => rfl) ?_
        refine o_end ?_
        refine den_next ((sub_env (sube_cons rfl (sube_cons rfl (sube_nil)))))
    · refine den_code_exit ?_
      refine dene_out rfl ?_
      refine dene_loop (by simp) ?_
      refine dene_to rfl ?_
      refine den_endl ((sub_env (sube_cons rfl (sube_nil))))
  refine den_seq ?_
  refine den_seq ?_
  refine den_region rfl ?_
  refine o_assign rfl rfl guard_none (look_int rfl) (fun _ => rfl) ?_
  refine o_end ?_
  refine den_both (fun z2 => []) (fun z2 => []) ?_ (fun z2 => ?_)
  · refine den_block ?_
    refine den_loop (ref02_bad_L1b l_0) (fun z3 => [(4, ⟨Rep.int .i64, z3, true⟩), (0, ⟨(Rep.str).slice, l_0, true⟩)]) (fun z3 => []) 0 (fun z3 => ?_) ((sub_env (sube_cons rfl (sube_cons rfl (sube_nil)))))
    refine den_seq ?_
    refine den_seq ?_
    refine den_region rfl ?_
    refine o_move rfl rfl guard_none (look_tmp rfl) (fun _ => rfl) ?_
    refine o_add rfl rfl guard_none (look_tmp rfl) (look_int rfl) (fun _ => rfl) (fun _ => rfl) ?_
    refine o_move rfl rfl guard_none (look_tmp rfl) (fun _ => rfl) ?_
    refine o_llen Tryz.underlying26 rfl rfl guard_none (look_tmp rfl) (fun _ => rfl) ?_
    refine o_lss rfl rfl guard_none (look_tmp rfl) (look_tmp rfl) (fun _ => rfl) (fun _ => rfl) ?_
    refine o_end ?_
    refine den_cond (look_tmp rfl) ?_ ?_
    · refine den_skip ?_
      refine den_seq ?_
      refine den_block ?_
      refine den_seq ?_
      refine den_open (fun z4 h_z4 => ?_)
      refine den_open (fun z5 h_z5 => ?_)
      refine den_draw [(24, ⟨(Rep.str).slice, l_0, true⟩), (25, ⟨Rep.int .i64, z3, true⟩), (26, ⟨(Rep.str).ptrTo, z4, true⟩), (27, ⟨Rep.str, z4, true⟩), (28, ⟨(Rep.str).slice, l_0, true⟩), (29, ⟨Rep.int .i64, z3, true⟩), (30, ⟨Rep.int .i64, IntKind.i64.wrap (z3 + 1), true⟩), (31, ⟨(Rep.str).ptrTo, z5, true⟩), (32, ⟨Rep.str, z5, true⟩), (33, ⟨Rep.bool, !(less z4 z5), true⟩)] mixed rfl rfl ⟨?_, ?_, ?_, ?_, ?_, ?_, ?_, ?_, ?_, ?_, trivial⟩ ?_
      · intro S hc hk hp
        refine o_move rfl rfl guard_none (look_o rfl rfl) (fun _ => rfl) ?_
        exact d_end rfl rfl rfl
      · intro S hc hk hp
        refine o_move rfl rfl guard_none (look_o rfl rfl) (fun _ => rfl) ?_
        exact d_end rfl rfl rfl
      · intro S hc hk hp
        refine o_from (bind_eqO h_z4) ?_
        refine o_iaddr Tryz.underlying26 type9 rfl rfl (look_d rfl rfl (pr hp 0 rfl rfl)) (look_d rfl rfl (pr hp 1 rfl rfl)) rfl rfl (o_eqO ?_)
        exact d_end rfl rfl rfl
      · intro S hc hk hp
        refine o_load type9 rfl rfl guard_none (look_d rfl rfl (pr hp 0 rfl rfl)) (fun _ => rfl) ?_
        exact d_end rfl rfl rfl
      · intro S hc hk hp
        refine o_move rfl rfl guard_none (look_o rfl rfl) (fun _ => rfl) ?_
        exact d_end rfl rfl rfl
      · intro S hc hk hp
        refine o_move rfl rfl guard_none (look_o rfl rfl) (fun _ => rfl) ?_
        exact d_end rfl rfl rfl
      · intro S hc hk hp
        refine o_add rfl rfl guard_none (look_d rfl rfl (pr hp 0 rfl rfl)) (look_int rfl) (fun _ => rfl) (fun _ => rfl) ?_
        exact d_end rfl rfl rfl
      · intro S hc hk hp
        refine o_from (bind_eqO h_z5) ?_
        refine o_iaddr Tryz.underlying26 type9 rfl rfl (look_d rfl rfl (pr hp 0 rfl rfl)) (look_d rfl rfl (pr hp 1 rfl rfl)) rfl rfl (o_eqO ?_)
        exact d_end rfl rfl rfl
      · intro S hc hk hp
        refine o_load type9 rfl rfl guard_none (look_d rfl rfl (pr hp 0 rfl rfl)) (fun _ => rfl) ?_
        exact d_end rfl rfl rfl
      · intro S hc hk hp
        refine o_sgeq rfl rfl guard_none (look_d rfl rfl (pr hp 0 rfl rfl)) (look_d rfl rfl (pr hp 1 rfl rfl)) (fun _ => rfl) (fun _ => rfl) ?_
        exact d_end rfl rfl rfl
      refine den_cond (look_tmp rfl) ?_ ?_
      · refine den_seq ?_
        refine den_region rfl ?_
        refine o_assign rfl rfl guard_none (look_int rfl) (fun _ => rfl) ?_
        refine o_end ?_
        refine den_code_ret ?_
        refine dene_ret ?_
        refine dene_loop (by simp) ?_
        refine dene_ret ?_
        refine dene_both (by simp) ?_
        refine dene_ret ?_
        exact dene_res (res1 rfl (rv_tmp rfl))
      · refine den_skip ?_
        refine den_blkend ?_
        refine den_region rfl ?_
        refine o_move rfl rfl guard_none (look_tmp rfl) (fun _ => rfl) ?_
        refine o_add rfl rfl guard_none (look_tmp rfl) (look_int rfl) (fun _ => rfl) (fun _ => rfl) ?_
        refine o_assign rfl rfl guard_none (look_tmp rfl) (fun _ => rfl) ?_
        refine o_end ?_
        refine den_next ((sub_env (sube_cons rfl (sube_cons rfl (sube_nil)))))
    · refine den_code_exit ?_
      refine dene_out rfl ?_
      refine dene_loop (by simp) ?_
      refine dene_to rfl ?_
      refine den_endl ((sub_env (sube_nil)))
  refine den_seq ?_
  refine den_region rfl ?_
  refine o_assign rfl rfl guard_none (look_int rfl) (fun _ => rfl) ?_
  refine o_end ?_
  refine den_code_ret ?_
  exact dene_res (res1 rfl (rv_tmp rfl))

theorem ref02_Check_ok  (v_0 : T_api_Value) : FunOk Tryz.prog 26 [⟨T_api_Value_rep, v_0, true⟩] (ref02_Check v_0) (Rep.int .i64) := by
  refine fun_ok Tryz.func26 rfl Tryz.ntmps26 rfl (all_cons rfl all_nil) (fun w0 ok0 => ?_)
  refine den_seq ?_
  refine den_region rfl ?_
  refine o_box rfl rfl (look_tmp rfl) rfl (fun z1 => ?_)
  refine o_assign rfl rfl guard_none (look_int rfl) (fun _ => rfl) ?_
  refine o_end ?_
  refine den_seq ?_
  refine den_seq ?_
  refine den_region rfl ?_
  refine o_faddr field28_0 type3 (by decide) rfl rfl guard_none (look_tmp rfl) (fun _ => rfl) ?_
  refine o_oloadi 0 rfl type3 T_api_Value_foc0 rfl guard_none (look_tmp rfl) (fun _ => rfl) ?_
  refine o_neq rfl rfl guard_none (look_tmp rfl) (look_int rfl) (fun _ => rfl) (fun _ => rfl) ?_
  refine o_move rfl rfl guard_none (look_tmp rfl) (fun _ => rfl) ?_
  refine o_faddr field28_0 type3 (by decide) rfl rfl (guard_some rfl rfl rfl) (look_tmp rfl) (fun _ => rfl) ?_
  refine o_oloadi 0 rfl type3 T_api_Value_foc0 rfl (guard_some rfl rfl rfl) (look_tmp rfl) (fun h => h) ?_
  refine o_neq rfl rfl (guard_some rfl rfl rfl) (look_tmp rfl) (look_int rfl) (fun h => h) (fun _ => rfl) ?_
  refine o_pick rfl rfl guard_none (look_tmp rfl) (look_tmp rfl) look_bool (fun _ => rfl) (fun h1 h2 => pick_t ((fun _ => rfl) h1) h2) (fun _ _ => rfl) ?_
  refine o_move rfl rfl guard_none (look_tmp rfl) (fun _ => rfl) ?_
  refine o_faddr field28_0 type3 (by decide) rfl rfl (guard_some rfl rfl rfl) (look_tmp rfl) (fun _ => rfl) ?_
  refine o_oloadi 0 rfl type3 T_api_Value_foc0 rfl (guard_some rfl rfl rfl) (look_tmp rfl) (fun h => h) ?_
  refine o_neq rfl rfl (guard_some rfl rfl rfl) (look_tmp rfl) (look_int rfl) (fun h => h) (fun _ => rfl) ?_
  refine o_pick rfl rfl guard_none (look_tmp rfl) (look_tmp rfl) look_bool (fun _ => rfl) (fun h1 h2 => pick_t ((fun _ => rfl) h1) h2) (fun _ _ => rfl) ?_
  refine o_move rfl rfl guard_none (look_tmp rfl) (fun _ => rfl) ?_
  refine o_faddr field28_0 type3 (by decide) rfl rfl (guard_some rfl rfl rfl) (look_tmp rfl) (fun _ => rfl) ?_
  refine o_oloadi 0 rfl type3 T_api_Value_foc0 rfl (guard_some rfl rfl rfl) (look_tmp rfl) (fun h => h) ?_
  refine o_neq rfl rfl (guard_some rfl rfl rfl) (look_tmp rfl) (look_int rfl) (fun h => h) (fun _ => rfl) ?_
  refine o_pick rfl rfl guard_none (look_tmp rfl) (look_tmp rfl) look_bool (fun _ => rfl) (fun h1 h2 => pick_t ((fun _ => rfl) h1) h2) (fun _ _ => rfl) ?_
  refine o_end ?_
  refine den_cond (look_tmp rfl) ?_ ?_
  · refine den_seq ?_
    refine den_region rfl ?_
    refine o_assign rfl rfl guard_none (look_int rfl) (fun _ => rfl) ?_
    refine o_end ?_
    refine den_code_ret ?_
    refine dene_ret ?_
    exact dene_res (res1 rfl (rv_tmp rfl))
  · refine den_skip ?_
    refine den_seq ?_
    refine den_region rfl ?_
    refine o_faddr field28_3 type26 (by decide) rfl rfl guard_none (look_tmp rfl) (fun _ => rfl) ?_
    refine o_oloadi 0 rfl type26 T_api_Value_foc3 rfl guard_none (look_tmp rfl) (fun _ => rfl) ?_
    refine o_call rfl rfl rfl callable43 (looks_cons (look_tmp rfl) (fun _ => rfl) (looks_nil)) (ref02_bad_ok _) (fun z2 => ?_)
    refine o_assign rfl rfl guard_none (look_tmp rfl) (fun _ => rfl) ?_
    refine o_end ?_
    refine den_seq ?_
    refine den_seq ?_
    refine den_region rfl ?_
    refine o_faddr field28_2 type9 (by decide) rfl rfl guard_none (look_tmp rfl) (fun _ => rfl) ?_
    refine o_oloadi 0 rfl type9 T_api_Value_foc2 rfl guard_none (look_tmp rfl) (fun _ => rfl) ?_
    refine o_slen Tryz.underlying9 rfl rfl guard_none (look_tmp rfl) (fun _ => rfl) ?_
    refine o_gtr rfl rfl guard_none (look_tmp rfl) (look_int rfl) (fun _ => rfl) (fun _ => rfl) ?_
    refine o_move rfl rfl guard_none (look_tmp rfl) (fun _ => rfl) ?_
    refine o_move rfl rfl (guard_some rfl rfl rfl) (look_tmp rfl) (fun _ => rfl) ?_
    refine o_eql rfl rfl (guard_some rfl rfl rfl) (look_tmp rfl) (look_int rfl) (fun h => h) (fun _ => rfl) ?_
    refine o_pick rfl rfl guard_none (look_tmp rfl) look_bool (look_tmp rfl) (fun _ => rfl) (fun _ _ => rfl) (fun h1 h2 => pick_f ((fun _ => rfl) h1) h2) ?_
    refine o_end ?_
    refine den_cond (look_tmp rfl) ?_ ?_
    · refine den_seq ?_
      refine den_region rfl ?_
      refine o_assign rfl rfl guard_none (look_int rfl) (fun _ => rfl) ?_
      refine o_end ?_
      refine den_code_ret ?_
      refine dene_ret ?_
      exact dene_res (res1 rfl (rv_tmp rfl))
    · refine den_skip ?_
      refine den_seq ?_
      refine den_seq ?_
      refine den_region rfl ?_
      refine o_faddr field28_3 type26 (by decide) rfl rfl guard_none (look_tmp rfl) (fun _ => rfl) ?_
      refine o_oloadi 0 rfl type26 T_api_Value_foc3 rfl guard_none (look_tmp rfl) (fun _ => rfl) ?_
      refine o_llen Tryz.underlying26 rfl rfl guard_none (look_tmp rfl) (fun _ => rfl) ?_
      refine o_gtr rfl rfl guard_none (look_tmp rfl) (look_int rfl) (fun _ => rfl) (fun _ => rfl) ?_
      refine o_end ?_
      refine den_cond (look_tmp rfl) ?_ ?_
      · refine den_seq ?_
        refine den_region rfl ?_
        refine o_assign rfl rfl guard_none (look_int rfl) (fun _ => rfl) ?_
        refine o_end ?_
        refine den_code_ret ?_
        refine dene_ret ?_
        exact dene_res (res1 rfl (rv_tmp rfl))
      · refine den_skip ?_
        refine den_seq ?_
        refine den_seq ?_
        refine den_region rfl ?_
        refine o_move rfl rfl guard_none (look_tmp rfl) (fun _ => rfl) ?_
        refine o_eql rfl rfl guard_none (look_tmp rfl) (look_int rfl) (fun _ => rfl) (fun _ => rfl) ?_
        refine o_end ?_
        refine den_cond (look_tmp rfl) ?_ ?_
        · refine den_seq ?_
          refine den_region rfl ?_
          refine o_assign rfl rfl guard_none (look_int rfl) (fun _ => rfl) ?_
          refine o_end ?_
          refine den_code_ret ?_
          refine dene_ret ?_
          exact dene_res (res1 rfl (rv_tmp rfl))
        · refine den_skip ?_
          refine den_seq ?_
          refine den_seq ?_
          refine den_region rfl ?_
          refine o_faddr field28_0 type3 (by decide) rfl rfl guard_none (look_tmp rfl) (fun _ => rfl) ?_
          refine o_oloadi 0 rfl type3 T_api_Value_foc0 rfl guard_none (look_tmp rfl) (fun _ => rfl) ?_
          refine o_eql rfl rfl guard_none (look_tmp rfl) (look_int rfl) (fun _ => rfl) (fun _ => rfl) ?_
          refine o_move rfl rfl guard_none (look_tmp rfl) (fun _ => rfl) ?_
          refine o_faddr field28_2 type9 (by decide) rfl rfl (guard_some rfl rfl rfl) (look_tmp rfl) (fun _ => rfl) ?_
          refine o_oloadi 0 rfl type9 T_api_Value_foc2 rfl (guard_some rfl rfl rfl) (look_tmp rfl) (fun h => h) ?_
          refine o_seql rfl rfl (guard_some rfl rfl rfl) (look_tmp rfl) (look_str (l := []) rfl (by decide)) (fun h => h) (fun _ => rfl) ?_
          refine o_pick rfl rfl guard_none (look_tmp rfl) (look_tmp rfl) look_bool (fun _ => rfl) (fun h1 h2 => pick_t ((fun _ => rfl) h1) h2) (fun _ _ => rfl) ?_
          refine o_move rfl rfl guard_none (look_tmp rfl) (fun _ => rfl) ?_
          refine o_faddr field28_3 type26 (by decide) rfl rfl (guard_some rfl rfl rfl) (look_tmp rfl) (fun _ => rfl) ?_
          refine o_oloadi 0 rfl type26 T_api_Value_foc3 rfl (guard_some rfl rfl rfl) (look_tmp rfl) (fun h => h) ?_
          refine o_llen Tryz.underlying26 rfl rfl (guard_some rfl rfl rfl) (look_tmp rfl) (fun h => h) ?_
          refine o_eql rfl rfl (guard_some rfl rfl rfl) (look_tmp rfl) (look_int rfl) (fun h => h) (fun _ => rfl) ?_
          refine o_pick rfl rfl guard_none (look_tmp rfl) (look_tmp rfl) look_bool (fun _ => rfl) (fun h1 h2 => pick_t ((fun _ => rfl) h1) h2) (fun _ _ => rfl) ?_
          refine o_end ?_
          refine den_cond (look_tmp rfl) ?_ ?_
          · refine den_seq ?_
            refine den_region rfl ?_
            refine o_assign rfl rfl guard_none (look_int rfl) (fun _ => rfl) ?_
            refine o_end ?_
            refine den_code_ret ?_
            refine dene_ret ?_
            exact dene_res (res1 rfl (rv_tmp rfl))
          · refine den_skip ?_
            refine den_seq ?_
            refine den_seq ?_
            refine den_region rfl ?_
            refine o_faddr field28_0 type3 (by decide) rfl rfl guard_none (look_tmp rfl) (fun _ => rfl) ?_
            refine o_oloadi 0 rfl type3 T_api_Value_foc0 rfl guard_none (look_tmp rfl) (fun _ => rfl) ?_
            refine o_eql rfl rfl guard_none (look_tmp rfl) (look_int rfl) (fun _ => rfl) (fun _ => rfl) ?_
            refine o_move rfl rfl guard_none (look_tmp rfl) (fun _ => rfl) ?_
            refine o_faddr field28_1 type2 (by decide) rfl rfl (guard_some rfl rfl rfl) (look_tmp rfl) (fun _ => rfl) ?_
            refine o_oloadi 0 rfl type2 T_api_Value_foc1 rfl (guard_some rfl rfl rfl) (look_tmp rfl) (fun h => h) ?_
            refine o_eql rfl rfl (guard_some rfl rfl rfl) (look_tmp rfl) (look_int rfl) (fun h => h) (fun _ => rfl) ?_
            refine o_move rfl rfl (guard_some rfl rfl rfl) (look_tmp rfl) (fun h => h) ?_
            refine o_faddr field28_1 type2 (by decide) rfl rfl (guard_some rfl rfl rfl) (look_tmp rfl) (fun _ => rfl) ?_
            refine o_oloadi 0 rfl type2 T_api_Value_foc1 rfl (guard_some rfl rfl rfl) (look_tmp rfl) (fun h => h) ?_
            refine o_eql rfl rfl (guard_some rfl rfl rfl) (look_tmp rfl) (look_int rfl) (fun h => h) (fun _ => rfl) ?_
            refine o_pick rfl rfl (guard_some rfl rfl rfl) (look_tmp rfl) look_bool (look_tmp rfl) (fun h => h) (fun _ _ => rfl) (fun h1 h2 => pick_f ((fun h => h) h1) h2) ?_
            refine o_pick rfl rfl guard_none (look_tmp rfl) (look_tmp rfl) look_bool (fun _ => rfl) (fun h1 h2 => pick_t ((fun _ => rfl) h1) h2) (fun _ _ => rfl) ?_
            refine o_move rfl rfl guard_none (look_tmp rfl) (fun _ => rfl) ?_
            refine o_faddr field28_2 type9 (by decide) rfl rfl (guard_some rfl rfl rfl) (look_tmp rfl) (fun _ => rfl) ?_
            refine o_oloadi 0 rfl type9 T_api_Value_foc2 rfl (guard_some rfl rfl rfl) (look_tmp rfl) (fun h => h) ?_
            refine o_seql rfl rfl (guard_some rfl rfl rfl) (look_tmp rfl) (look_str (l := []) rfl (by decide)) (fun h => h) (fun _ => rfl) ?_
            refine o_pick rfl rfl guard_none (look_tmp rfl) (look_tmp rfl) look_bool (fun _ => rfl) (fun h1 h2 => pick_t ((fun _ => rfl) h1) h2) (fun _ _ => rfl) ?_
            refine o_move rfl rfl guard_none (look_tmp rfl) (fun _ => rfl) ?_
            refine o_faddr field28_3 type26 (by decide) rfl rfl (guard_some rfl rfl rfl) (look_tmp rfl) (fun _ => rfl) ?_
            refine o_oloadi 0 rfl type26 T_api_Value_foc3 rfl (guard_some rfl rfl rfl) (look_tmp rfl) (fun h => h) ?_
            refine o_llen Tryz.underlying26 rfl rfl (guard_some rfl rfl rfl) (look_tmp rfl) (fun h => h) ?_
            refine o_eql rfl rfl (guard_some rfl rfl rfl) (look_tmp rfl) (look_int rfl) (fun h => h) (fun _ => rfl) ?_
            refine o_pick rfl rfl guard_none (look_tmp rfl) (look_tmp rfl) look_bool (fun _ => rfl) (fun h1 h2 => pick_t ((fun _ => rfl) h1) h2) (fun _ _ => rfl) ?_
            refine o_end ?_
            refine den_cond (look_tmp rfl) ?_ ?_
            · refine den_seq ?_
              refine den_region rfl ?_
              refine o_assign rfl rfl guard_none (look_int rfl) (fun _ => rfl) ?_
              refine o_end ?_
              refine den_code_ret ?_
              refine dene_ret ?_
              exact dene_res (res1 rfl (rv_tmp rfl))
            · refine den_skip ?_
              refine den_seq ?_
              refine den_seq ?_
              refine den_region rfl ?_
              refine o_faddr field28_0 type3 (by decide) rfl rfl guard_none (look_tmp rfl) (fun _ => rfl) ?_
              refine o_oloadi 0 rfl type3 T_api_Value_foc0 rfl guard_none (look_tmp rfl) (fun _ => rfl) ?_
              refine o_eql rfl rfl guard_none (look_tmp rfl) (look_int rfl) (fun _ => rfl) (fun _ => rfl) ?_
              refine o_move rfl rfl guard_none (look_tmp rfl) (fun _ => rfl) ?_
              refine o_faddr field28_1 type2 (by decide) rfl rfl (guard_some rfl rfl rfl) (look_tmp rfl) (fun _ => rfl) ?_
              refine o_oloadi 0 rfl type2 T_api_Value_foc1 rfl (guard_some rfl rfl rfl) (look_tmp rfl) (fun h => h) ?_
              refine o_eql rfl rfl (guard_some rfl rfl rfl) (look_tmp rfl) (look_int rfl) (fun h => h) (fun _ => rfl) ?_
              refine o_pick rfl rfl guard_none (look_tmp rfl) (look_tmp rfl) look_bool (fun _ => rfl) (fun h1 h2 => pick_t ((fun _ => rfl) h1) h2) (fun _ _ => rfl) ?_
              refine o_move rfl rfl guard_none (look_tmp rfl) (fun _ => rfl) ?_
              refine o_faddr field28_3 type26 (by decide) rfl rfl (guard_some rfl rfl rfl) (look_tmp rfl) (fun _ => rfl) ?_
              refine o_oloadi 0 rfl type26 T_api_Value_foc3 rfl (guard_some rfl rfl rfl) (look_tmp rfl) (fun h => h) ?_
              refine o_llen Tryz.underlying26 rfl rfl (guard_some rfl rfl rfl) (look_tmp rfl) (fun h => h) ?_
              refine o_eql rfl rfl (guard_some rfl rfl rfl) (look_tmp rfl) (look_int rfl) (fun h => h) (fun _ => rfl) ?_
              refine o_pick rfl rfl guard_none (look_tmp rfl) (look_tmp rfl) look_bool (fun _ => rfl) (fun h1 h2 => pick_t ((fun _ => rfl) h1) h2) (fun _ _ => rfl) ?_
              refine o_end ?_
              refine den_cond (look_tmp rfl) ?_ ?_
              · refine den_seq ?_
                refine den_region rfl ?_
                refine o_assign rfl rfl guard_none (look_int rfl) (fun _ => rfl) ?_
                refine o_end ?_
                refine den_code_ret ?_
                refine dene_ret ?_
                exact dene_res (res1 rfl (rv_tmp rfl))
              · refine den_skip ?_
                refine den_seq ?_
                refine den_seq ?_
                refine den_region rfl ?_
                refine o_faddr field28_0 type3 (by decide) rfl rfl guard_none (look_tmp rfl) (fun _ => rfl) ?_
                refine o_oloadi 0 rfl type3 T_api_Value_foc0 rfl guard_none (look_tmp rfl) (fun _ => rfl) ?_
                refine o_eql rfl rfl guard_none (look_tmp rfl) (look_int rfl) (fun _ => rfl) (fun _ => rfl) ?_
                refine o_move rfl rfl guard_none (look_tmp rfl) (fun _ => rfl) ?_
                refine o_faddr field28_1 type2 (by decide) rfl rfl (guard_some rfl rfl rfl) (look_tmp rfl) (fun _ => rfl) ?_
                refine o_oloadi 0 rfl type2 T_api_Value_foc1 rfl (guard_some rfl rfl rfl) (look_tmp rfl) (fun h => h) ?_
                refine o_eql rfl rfl (guard_some rfl rfl rfl) (look_tmp rfl) (look_int rfl) (fun h => h) (fun _ => rfl) ?_
                refine o_pick rfl rfl guard_none (look_tmp rfl) (look_tmp rfl) look_bool (fun _ => rfl) (fun h1 h2 => pick_t ((fun _ => rfl) h1) h2) (fun _ _ => rfl) ?_
                refine o_move rfl rfl guard_none (look_tmp rfl) (fun _ => rfl) ?_
                refine o_faddr field28_2 type9 (by decide) rfl rfl (guard_some rfl rfl rfl) (look_tmp rfl) (fun _ => rfl) ?_
                refine o_oloadi 0 rfl type9 T_api_Value_foc2 rfl (guard_some rfl rfl rfl) (look_tmp rfl) (fun h => h) ?_
                refine o_seql rfl rfl (guard_some rfl rfl rfl) (look_tmp rfl) (look_str (l := []) rfl (by decide)) (fun h => h) (fun _ => rfl) ?_
                refine o_pick rfl rfl guard_none (look_tmp rfl) (look_tmp rfl) look_bool (fun _ => rfl) (fun h1 h2 => pick_t ((fun _ => rfl) h1) h2) (fun _ _ => rfl) ?_
                refine o_end ?_
                refine den_cond (look_tmp rfl) ?_ ?_
                · refine den_seq ?_
                  refine den_region rfl ?_
                  refine o_assign rfl rfl guard_none (look_int rfl) (fun _ => rfl) ?_
                  refine o_end ?_
                  refine den_code_ret ?_
                  refine dene_ret ?_
                  exact dene_res (res1 rfl (rv_tmp rfl))
                · refine den_skip ?_
                  refine den_seq ?_
                  refine den_region rfl ?_
                  refine o_assign rfl rfl guard_none (look_int rfl) (fun _ => rfl) ?_
                  refine o_end ?_
                  refine den_code_ret ?_
                  exact dene_res (res1 rfl (rv_tmp rfl))

theorem ref23_empty_ok  (v_0 : T_api_Value) : FunOk Tryz.prog 27 [⟨T_api_Value_rep, v_0, true⟩] (ref23_empty v_0) (Rep.bool) := by
  refine fun_ok Tryz.func27 rfl Tryz.ntmps27 rfl (all_cons rfl all_nil) (fun w0 ok0 => ?_)
  refine den_seq ?_
  refine den_region rfl ?_
  refine o_box rfl rfl (look_tmp rfl) rfl (fun z1 => ?_)
  refine o_assign rfl rfl guard_none look_bool (fun _ => rfl) ?_
  refine o_end ?_
  refine den_seq ?_
  refine den_region rfl ?_
  refine o_faddr field28_0 type3 (by decide) rfl rfl guard_none (look_tmp rfl) (fun _ => rfl) ?_
  refine o_oloadi 0 rfl type3 T_api_Value_foc0 rfl guard_none (look_tmp rfl) (fun _ => rfl) ?_
  refine o_eql rfl rfl guard_none (look_tmp rfl) (look_int rfl) (fun _ => rfl) (fun _ => rfl) ?_
  refine o_move rfl rfl guard_none (look_tmp rfl) (fun _ => rfl) ?_
  refine o_faddr field28_1 type2 (by decide) rfl rfl (guard_some rfl rfl rfl) (look_tmp rfl) (fun _ => rfl) ?_
  refine o_oloadi 0 rfl type2 T_api_Value_foc1 rfl (guard_some rfl rfl rfl) (look_tmp rfl) (fun h => h) ?_
  refine o_eql rfl rfl (guard_some rfl rfl rfl) (look_tmp rfl) (look_int rfl) (fun h => h) (fun _ => rfl) ?_
  refine o_pick rfl rfl guard_none (look_tmp rfl) (look_tmp rfl) look_bool (fun _ => rfl) (fun h1 h2 => pick_t ((fun _ => rfl) h1) h2) (fun _ _ => rfl) ?_
  refine o_move rfl rfl guard_none (look_tmp rfl) (fun _ => rfl) ?_
  refine o_faddr field28_2 type9 (by decide) rfl rfl (guard_some rfl rfl rfl) (look_tmp rfl) (fun _ => rfl) ?_
  refine o_oloadi 0 rfl type9 T_api_Value_foc2 rfl (guard_some rfl rfl rfl) (look_tmp rfl) (fun h => h) ?_
  refine o_seql rfl rfl (guard_some rfl rfl rfl) (look_tmp rfl) (look_str (l := []) rfl (by decide)) (fun h => h) (fun _ => rfl) ?_
  refine o_pick rfl rfl guard_none (look_tmp rfl) (look_tmp rfl) look_bool (fun _ => rfl) (fun h1 h2 => pick_t ((fun _ => rfl) h1) h2) (fun _ _ => rfl) ?_
  refine o_move rfl rfl guard_none (look_tmp rfl) (fun _ => rfl) ?_
  refine o_faddr field28_3 type26 (by decide) rfl rfl (guard_some rfl rfl rfl) (look_tmp rfl) (fun _ => rfl) ?_
  refine o_oloadi 0 rfl type26 T_api_Value_foc3 rfl (guard_some rfl rfl rfl) (look_tmp rfl) (fun h => h) ?_
  refine o_llen Tryz.underlying26 rfl rfl (guard_some rfl rfl rfl) (look_tmp rfl) (fun h => h) ?_
  refine o_eql rfl rfl (guard_some rfl rfl rfl) (look_tmp rfl) (look_int rfl) (fun h => h) (fun _ => rfl) ?_
  refine o_pick rfl rfl guard_none (look_tmp rfl) (look_tmp rfl) look_bool (fun _ => rfl) (fun h1 h2 => pick_t ((fun _ => rfl) h1) h2) (fun _ _ => rfl) ?_
  refine o_assign rfl rfl guard_none (look_tmp rfl) (fun _ => rfl) ?_
  refine o_lt (fun z2 => ?_)
  refine o_end ?_
  refine den_code_ret ?_
  exact dene_res (res1 rfl (rv_tmp rfl))

theorem ref23_Check_ok  (e_0 : T_api_Event) : FunOk Tryz.prog 12 [⟨T_api_Event_rep, e_0, true⟩] (ref23_Check e_0) (Rep.int .i64) := by
  refine fun_ok Tryz.func12 rfl Tryz.ntmps12 rfl (all_cons rfl all_nil) (fun w0 ok0 => ?_)
  refine den_seq ?_
  refine den_region rfl ?_
  refine o_box rfl rfl (look_tmp rfl) rfl (fun z1 => ?_)
  refine o_assign rfl rfl guard_none (look_int rfl) (fun _ => rfl) ?_
  refine o_end ?_
  refine den_seq ?_
  refine den_seq ?_
  refine den_region rfl ?_
  refine o_faddr field30_1 type3 (by decide) rfl rfl guard_none (look_tmp rfl) (fun _ => rfl) ?_
  refine o_oloadi 0 rfl type3 T_api_Event_foc1 rfl guard_none (look_tmp rfl) (fun _ => rfl) ?_
  refine o_lss rfl rfl guard_none (look_tmp rfl) (look_int rfl) (fun _ => rfl) (fun _ => rfl) ?_
  refine o_move rfl rfl guard_none (look_tmp rfl) (fun _ => rfl) ?_
  refine o_faddr field30_1 type3 (by decide) rfl rfl (guard_some rfl rfl rfl) (look_tmp rfl) (fun _ => rfl) ?_
  refine o_oloadi 0 rfl type3 T_api_Event_foc1 rfl (guard_some rfl rfl rfl) (look_tmp rfl) (fun h => h) ?_
  refine o_gtr rfl rfl (guard_some rfl rfl rfl) (look_tmp rfl) (look_int rfl) (fun h => h) (fun _ => rfl) ?_
  refine o_pick rfl rfl guard_none (look_tmp rfl) look_bool (look_tmp rfl) (fun _ => rfl) (fun _ _ => rfl) (fun h1 h2 => pick_f ((fun _ => rfl) h1) h2) ?_
  refine o_end ?_
  refine den_cond (look_tmp rfl) ?_ ?_
  · refine den_seq ?_
    refine den_region rfl ?_
    refine o_assign rfl rfl guard_none (look_int rfl) (fun _ => rfl) ?_
    refine o_end ?_
    refine den_code_ret ?_
    refine dene_ret ?_
    exact dene_res (res1 rfl (rv_tmp rfl))
  · refine den_skip ?_
    refine den_seq ?_
    refine den_seq ?_
    refine den_region rfl ?_
    refine o_faddr field30_0 type2 (by decide) rfl rfl guard_none (look_tmp rfl) (fun _ => rfl) ?_
    refine o_oloadi 0 rfl type2 T_api_Event_foc0 rfl guard_none (look_tmp rfl) (fun _ => rfl) ?_
    refine o_lss rfl rfl guard_none (look_tmp rfl) (look_int rfl) (fun _ => rfl) (fun _ => rfl) ?_
    refine o_move rfl rfl guard_none (look_tmp rfl) (fun _ => rfl) ?_
    refine o_faddr field30_2 type3 (by decide) rfl rfl (guard_some rfl rfl rfl) (look_tmp rfl) (fun _ => rfl) ?_
    refine o_oloadi 0 rfl type3 T_api_Event_foc2 rfl (guard_some rfl rfl rfl) (look_tmp rfl) (fun h => h) ?_
    refine o_lss rfl rfl (guard_some rfl rfl rfl) (look_tmp rfl) (look_int rfl) (fun h => h) (fun _ => rfl) ?_
    refine o_pick rfl rfl guard_none (look_tmp rfl) look_bool (look_tmp rfl) (fun _ => rfl) (fun _ _ => rfl) (fun h1 h2 => pick_f ((fun _ => rfl) h1) h2) ?_
    refine o_move rfl rfl guard_none (look_tmp rfl) (fun _ => rfl) ?_
    refine o_faddr field30_2 type3 (by decide) rfl rfl (guard_some rfl rfl rfl) (look_tmp rfl) (fun _ => rfl) ?_
    refine o_oloadi 0 rfl type3 T_api_Event_foc2 rfl (guard_some rfl rfl rfl) (look_tmp rfl) (fun h => h) ?_
    refine o_gtr rfl rfl (guard_some rfl rfl rfl) (look_tmp rfl) (look_int rfl) (fun h => h) (fun _ => rfl) ?_
    refine o_pick rfl rfl guard_none (look_tmp rfl) look_bool (look_tmp rfl) (fun _ => rfl) (fun _ _ => rfl) (fun h1 h2 => pick_f ((fun _ => rfl) h1) h2) ?_
    refine o_end ?_
    refine den_cond (look_tmp rfl) ?_ ?_
    · refine den_seq ?_
      refine den_region rfl ?_
      refine o_assign rfl rfl guard_none (look_int rfl) (fun _ => rfl) ?_
      refine o_end ?_
      refine den_code_ret ?_
      refine dene_ret ?_
      exact dene_res (res1 rfl (rv_tmp rfl))
    · refine den_skip ?_
      refine den_seq ?_
      refine den_draw [(29, ⟨Rep.addr, (z1, 0 + 1), true⟩), (30, ⟨Rep.int .i64, e_0.Kind, true⟩), (31, ⟨Rep.bool, decide (e_0.Kind ≤ 3), true⟩), (32, ⟨Rep.addr, (z1, 0 + 1), true⟩), (33, ⟨Rep.int .i64, e_0.Kind, true⟩), (34, ⟨Rep.bool, e_0.Kind == 1, true⟩), (35, ⟨Rep.bool, e_0.Kind == 1, true⟩), (36, ⟨Rep.addr, (z1, 0 + 1), (true && ((e_0.Kind == 1) == false))⟩), (37, ⟨Rep.int .i64, e_0.Kind, (true && ((e_0.Kind == 1) == false))⟩), (38, ⟨Rep.bool, e_0.Kind == 4, (true && ((e_0.Kind == 1) == false))⟩), (39, ⟨Rep.bool, cond (e_0.Kind == 1) true (e_0.Kind == 4), true⟩), (40, ⟨Rep.addr, (z1, 0 + 1), true⟩), (41, ⟨Rep.int .i64, e_0.Kind, true⟩), (42, ⟨Rep.bool, e_0.Kind == 1, true⟩), (43, ⟨Rep.addr, (z1, 0 + 1), true⟩), (44, ⟨Rep.int .i64, e_0.Kind, true⟩), (45, ⟨Rep.bool, e_0.Kind == 1, true⟩), (46, ⟨Rep.bool, e_0.Kind == 1, true⟩), (47, ⟨Rep.addr, (z1, 0 + 1), (true && ((e_0.Kind == 1) == false))⟩), (48, ⟨Rep.int .i64, e_0.Kind, (true && ((e_0.Kind == 1) == false))⟩), (49, ⟨Rep.bool, e_0.Kind == 2, (true && ((e_0.Kind == 1) == false))⟩), (50, ⟨Rep.bool, cond (e_0.Kind == 1) true (e_0.Kind == 2), true⟩), (51, ⟨Rep.bool, cond (e_0.Kind == 1) true (e_0.Kind == 2), true⟩), (52, ⟨Rep.addr, (z1, 0 + 1), (true && ((cond (e_0.Kind == 1) true (e_0.Kind == 2)) == false))⟩), (53, ⟨Rep.int .i64, e_0.Kind, (true && ((cond (e_0.Kind == 1) true (e_0.Kind == 2)) == false))⟩), (54, ⟨Rep.bool, e_0.Kind == 4, (true && ((cond (e_0.Kind == 1) true (e_0.Kind == 2)) == false))⟩), (55, ⟨Rep.bool, cond (cond (e_0.Kind == 1) true (e_0.Kind == 2)) true (e_0.Kind == 4), true⟩), (56, ⟨Rep.addr, (z1, 0 + 1), true⟩), (57, ⟨Rep.int .i64, e_0.Kind, true⟩), (58, ⟨Rep.bool, e_0.Kind == 4, true⟩), (3, ⟨Rep.bool, decide (e_0.Kind ≤ 3), true⟩), (4, ⟨Rep.bool, cond (e_0.Kind == 1) true (e_0.Kind == 4), true⟩), (5, ⟨Rep.bool, e_0.Kind == 1, true⟩), (6, ⟨Rep.bool, cond (cond (e_0.Kind == 1) true (e_0.Kind == 2)) true (e_0.Kind == 4), true⟩), (7, ⟨Rep.bool, e_0.Kind == 4, true⟩)] mixed rfl rfl ⟨?_, ?_, ?_, ?_, ?_, ?_, ?_, ?_, ?_, ?_, ?_, ?_, ?_, ?_, ?_, ?_, ?_, ?_, ?_, ?_, ?_, ?_, ?_, ?_, ?_, ?_, ?_, ?_, ?_, ?_, ?_, ?_, ?_, ?_, ?_, trivial⟩ ?_
      · intro S hc hk hp
        refine o_faddr field30_1 type3 (by decide) rfl rfl guard_none (look_o rfl rfl) (fun _ => rfl) ?_
        exact d_end rfl rfl rfl
      · intro S hc hk hp
        refine o_oloadi 0 rfl type3 T_api_Event_foc1 rfl guard_none (look_d rfl rfl (pr hp 0 rfl rfl)) (fun _ => rfl) ?_
        exact d_end rfl rfl rfl
      · intro S hc hk hp
        refine o_leq rfl rfl guard_none (look_d rfl rfl (pr hp 0 rfl rfl)) (look_int rfl) (fun _ => rfl) (fun _ => rfl) ?_
        exact d_end rfl rfl rfl
      · intro S hc hk hp
        refine o_faddr field30_1 type3 (by decide) rfl rfl guard_none (look_o rfl rfl) (fun _ => rfl) ?_
        exact d_end rfl rfl rfl
      · intro S hc hk hp
        refine o_oloadi 0 rfl type3 T_api_Event_foc1 rfl guard_none (look_d rfl rfl (pr hp 0 rfl rfl)) (fun _ => rfl) ?_
        exact d_end rfl rfl rfl
      · intro S hc hk hp
        refine o_eql rfl rfl guard_none (look_d rfl rfl (pr hp 0 rfl rfl)) (look_int rfl) (fun _ => rfl) (fun _ => rfl) ?_
        exact d_end rfl rfl rfl
      · intro S hc hk hp
        refine o_move rfl rfl guard_none (look_d rfl rfl (pr hp 0 rfl rfl)) (fun _ => rfl) ?_
        exact d_end rfl rfl rfl
      · intro S hc hk hp
        refine o_faddr field30_1 type3 (by decide) rfl rfl (guard_d rfl rfl rfl rfl (pr hp 0 rfl rfl)) (look_o rfl rfl) (fun _ => rfl) ?_
        exact d_end rfl rfl rfl
      · intro S hc hk hp
        refine o_oloadi 0 rfl type3 T_api_Event_foc1 rfl (guard_d rfl rfl rfl rfl (pr hp 1 rfl rfl)) (look_d rfl rfl (pr hp 0 rfl rfl)) (fun h => h) ?_
        exact d_end rfl rfl rfl
      · intro S hc hk hp
        refine o_eql rfl rfl (guard_d rfl rfl rfl rfl (pr hp 1 rfl rfl)) (look_d rfl rfl (pr hp 0 rfl rfl)) (look_int rfl) (fun h => h) (fun _ => rfl) ?_
        exact d_end rfl rfl rfl
      · intro S hc hk hp
        refine o_pick rfl rfl guard_none (look_d rfl rfl (pr hp 0 rfl rfl)) look_bool (look_d rfl rfl (pr hp 1 rfl rfl)) (fun _ => rfl) (fun _ _ => rfl) (fun h1 h2 => pick_f ((fun _ => rfl) h1) h2) ?_
        exact d_end rfl rfl rfl
      · intro S hc hk hp
        refine o_faddr field30_1 type3 (by decide) rfl rfl guard_none (look_o rfl rfl) (fun _ => rfl) ?_
        exact d_end rfl rfl rfl
      · intro S hc hk hp
        refine o_oloadi 0 rfl type3 T_api_Event_foc1 rfl guard_none (look_d rfl rfl (pr hp 0 rfl rfl)) (fun _ => rfl) ?_
        exact d_end rfl rfl rfl
      · intro S hc hk hp
        refine o_eql rfl rfl guard_none (look_d rfl rfl (pr hp 0 rfl rfl)) (look_int rfl) (fun _ => rfl) (fun _ => rfl) ?_
        exact d_end rfl rfl rfl
      · intro S hc hk hp
        refine o_faddr field30_1 type3 (by decide) rfl rfl guard_none (look_o rfl rfl) (fun _ => rfl) ?_
        exact d_end rfl rfl rfl
      · intro S hc hk hp
        refine o_oloadi 0 rfl type3 T_api_Event_foc1 rfl guard_none (look_d rfl rfl (pr hp 0 rfl rfl)) (fun _ => rfl) ?_
        exact d_end rfl rfl rfl
      · intro S hc hk hp
        refine o_eql rfl rfl guard_none (look_d rfl rfl (pr hp 0 rfl rfl)) (look_int rfl) (fun _ => rfl) (fun _ => rfl) ?_
        exact d_end rfl rfl rfl
      · intro S hc hk hp
        refine o_move rfl rfl guard_none (look_d rfl rfl (pr hp 0 rfl rfl)) (fun _ => rfl) ?_
        exact d_end rfl rfl rfl
      · intro S hc hk hp
        refine o_faddr field30_1 type3 (by decide) rfl rfl (guard_d rfl rfl rfl rfl (pr hp 0 rfl rfl)) (look_o rfl rfl) (fun _ => rfl) ?_
        exact d_end rfl rfl rfl
      · intro S hc hk hp
        refine o_oloadi 0 rfl type3 T_api_Event_foc1 rfl (guard_d rfl rfl rfl rfl (pr hp 1 rfl rfl)) (look_d rfl rfl (pr hp 0 rfl rfl)) (fun h => h) ?_
        exact d_end rfl rfl rfl
      · intro S hc hk hp
        refine o_eql rfl rfl (guard_d rfl rfl rfl rfl (pr hp 1 rfl rfl)) (look_d rfl rfl (pr hp 0 rfl rfl)) (look_int rfl) (fun h => h) (fun _ => rfl) ?_
        exact d_end rfl rfl rfl
      · intro S hc hk hp
        refine o_pick rfl rfl guard_none (look_d rfl rfl (pr hp 0 rfl rfl)) look_bool (look_d rfl rfl (pr hp 1 rfl rfl)) (fun _ => rfl) (fun _ _ => rfl) (fun h1 h2 => pick_f ((fun _ => rfl) h1) h2) ?_
        exact d_end rfl rfl rfl
      · intro S hc hk hp
        refine o_move rfl rfl guard_none (look_d rfl rfl (pr hp 0 rfl rfl)) (fun _ => rfl) ?_
        exact d_end rfl rfl rfl
      · intro S hc hk hp
        refine o_faddr field30_1 type3 (by decide) rfl rfl (guard_d rfl rfl rfl rfl (pr hp 0 rfl rfl)) (look_o rfl rfl) (fun _ => rfl) ?_
        exact d_end rfl rfl rfl
      · intro S hc hk hp
        refine o_oloadi 0 rfl type3 T_api_Event_foc1 rfl (guard_d rfl rfl rfl rfl (pr hp 1 rfl rfl)) (look_d rfl rfl (pr hp 0 rfl rfl)) (fun h => h) ?_
        exact d_end rfl rfl rfl
      · intro S hc hk hp
        refine o_eql rfl rfl (guard_d rfl rfl rfl rfl (pr hp 1 rfl rfl)) (look_d rfl rfl (pr hp 0 rfl rfl)) (look_int rfl) (fun h => h) (fun _ => rfl) ?_
        exact d_end rfl rfl rfl
      · intro S hc hk hp
        refine o_pick rfl rfl guard_none (look_d rfl rfl (pr hp 0 rfl rfl)) look_bool (look_d rfl rfl (pr hp 1 rfl rfl)) (fun _ => rfl) (fun _ _ => rfl) (fun h1 h2 => pick_f ((fun _ => rfl) h1) h2) ?_
        exact d_end rfl rfl rfl
      · intro S hc hk hp
        refine o_faddr field30_1 type3 (by decide) rfl rfl guard_none (look_o rfl rfl) (fun _ => rfl) ?_
        exact d_end rfl rfl rfl
      · intro S hc hk hp
        refine o_oloadi 0 rfl type3 T_api_Event_foc1 rfl guard_none (look_d rfl rfl (pr hp 0 rfl rfl)) (fun _ => rfl) ?_
        exact d_end rfl rfl rfl
      · intro S hc hk hp
        refine o_eql rfl rfl guard_none (look_d rfl rfl (pr hp 0 rfl rfl)) (look_int rfl) (fun _ => rfl) (fun _ => rfl) ?_
        exact d_end rfl rfl rfl
      · intro S hc hk hp
        refine o_assign rfl rfl guard_none (look_d rfl rfl (pr hp 0 rfl rfl)) (fun _ => rfl) ?_
        exact d_end rfl rfl rfl
      · intro S hc hk hp
        refine o_assign rfl rfl guard_none (look_d rfl rfl (pr hp 0 rfl rfl)) (fun _ => rfl) ?_
        exact d_end rfl rfl rfl
      · intro S hc hk hp
        refine o_assign rfl rfl guard_none (look_d rfl rfl (pr hp 0 rfl rfl)) (fun _ => rfl) ?_
        exact d_end rfl rfl rfl
      · intro S hc hk hp
        refine o_assign rfl rfl guard_none (look_d rfl rfl (pr hp 0 rfl rfl)) (fun _ => rfl) ?_
        exact d_end rfl rfl rfl
      · intro S hc hk hp
        refine o_assign rfl rfl guard_none (look_d rfl rfl (pr hp 0 rfl rfl)) (fun _ => rfl) ?_
        exact d_end rfl rfl rfl
      refine den_seq ?_
      refine den_seq ?_
      refine den_region rfl ?_
      refine o_move rfl rfl guard_none (look_tmp rfl) (fun _ => rfl) ?_
      refine o_not rfl rfl guard_none (look_tmp rfl) (fun _ => rfl) ?_
      refine o_move rfl rfl guard_none (look_tmp rfl) (fun _ => rfl) ?_
      refine o_faddr field30_2 type3 (by decide) rfl rfl (guard_some rfl rfl rfl) (look_tmp rfl) (fun _ => rfl) ?_
      refine o_oloadi 0 rfl type3 T_api_Event_foc2 rfl (guard_some rfl rfl rfl) (look_tmp rfl) (fun h => h) ?_
      refine o_neq rfl rfl (guard_some rfl rfl rfl) (look_tmp rfl) (look_int rfl) (fun h => h) (fun _ => rfl) ?_
      refine o_pick rfl rfl guard_none (look_tmp rfl) (look_tmp rfl) look_bool (fun _ => rfl) (fun h1 h2 => pick_t ((fun _ => rfl) h1) h2) (fun _ _ => rfl) ?_
      refine o_end ?_
      refine den_cond (look_tmp rfl) ?_ ?_
      · refine den_seq ?_
        refine den_region rfl ?_
        refine o_assign rfl rfl guard_none (look_int rfl) (fun _ => rfl) ?_
        refine o_end ?_
        refine den_code_ret ?_
        refine dene_ret ?_
        exact dene_res (res1 rfl (rv_tmp rfl))
      · refine den_skip ?_
        refine den_seq ?_
        refine den_seq ?_
        refine den_region rfl ?_
        refine o_move rfl rfl guard_none (look_tmp rfl) (fun _ => rfl) ?_
        refine o_faddr field30_3 type9 (by decide) rfl rfl guard_none (look_tmp rfl) (fun _ => rfl) ?_
        refine o_oloadi 0 rfl type9 T_api_Event_foc3 rfl guard_none (look_tmp rfl) (fun _ => rfl) ?_
        refine o_call rfl rfl rfl callable25 (looks_cons (look_tmp rfl) (fun _ => rfl) (looks_nil)) (ref06_Name_ok _) (fun z2 => ?_)
        refine o_bneq Tryz.underlying4 rfl rfl guard_none (look_tmp rfl) (look_tmp rfl) (fun _ => rfl) (fun _ => rfl) ?_
        refine o_move rfl rfl guard_none (look_tmp rfl) (fun _ => rfl) ?_
        refine o_move rfl rfl (guard_some rfl rfl rfl) (look_tmp rfl) (fun _ => rfl) ?_
        refine o_not rfl rfl (guard_some rfl rfl rfl) (look_tmp rfl) (fun h => h) ?_
        refine o_move rfl rfl (guard_some rfl rfl rfl) (look_tmp rfl) (fun h => h) ?_
        refine o_faddr field30_3 type9 (by decide) rfl rfl (guard_some rfl rfl rfl) (look_tmp rfl) (fun _ => rfl) ?_
        refine o_oloadi 0 rfl type9 T_api_Event_foc3 rfl (guard_some rfl rfl rfl) (look_tmp rfl) (fun h => h) ?_
        refine o_sneq rfl rfl (guard_some rfl rfl rfl) (look_tmp rfl) (look_str (l := []) rfl (by decide)) (fun h => h) (fun _ => rfl) ?_
        refine o_pick rfl rfl (guard_some rfl rfl rfl) (look_tmp rfl) (look_tmp rfl) look_bool (fun h => h) (fun h1 h2 => pick_t ((fun h => h) h1) h2) (fun _ _ => rfl) ?_
        refine o_pick rfl rfl guard_none (look_tmp rfl) look_bool (look_tmp rfl) (fun _ => rfl) (fun _ _ => rfl) (fun h1 h2 => pick_f ((fun _ => rfl) h1) h2) ?_
        refine o_end ?_
        refine den_cond (look_tmp rfl) ?_ ?_
        · refine den_seq ?_
          refine den_region rfl ?_
          refine o_assign rfl rfl guard_none (look_int rfl) (fun _ => rfl) ?_
          refine o_end ?_
          refine den_code_ret ?_
          refine dene_ret ?_
          exact dene_res (res1 rfl (rv_tmp rfl))
        · refine den_skip ?_
          refine den_seq ?_
          refine den_seq ?_
          refine den_region rfl ?_
          refine o_move rfl rfl guard_none (look_tmp rfl) (fun _ => rfl) ?_
          refine o_faddr field30_4 type9 (by decide) rfl rfl guard_none (look_tmp rfl) (fun _ => rfl) ?_
          refine o_oloadi 0 rfl type9 T_api_Event_foc4 rfl guard_none (look_tmp rfl) (fun _ => rfl) ?_
          refine o_call rfl rfl rfl callable25 (looks_cons (look_tmp rfl) (fun _ => rfl) (looks_nil)) (ref06_Name_ok _) (fun z3 => ?_)
          refine o_bneq Tryz.underlying4 rfl rfl guard_none (look_tmp rfl) (look_tmp rfl) (fun _ => rfl) (fun _ => rfl) ?_
          refine o_move rfl rfl guard_none (look_tmp rfl) (fun _ => rfl) ?_
          refine o_move rfl rfl (guard_some rfl rfl rfl) (look_tmp rfl) (fun _ => rfl) ?_
          refine o_not rfl rfl (guard_some rfl rfl rfl) (look_tmp rfl) (fun h => h) ?_
          refine o_move rfl rfl (guard_some rfl rfl rfl) (look_tmp rfl) (fun h => h) ?_
          refine o_faddr field30_4 type9 (by decide) rfl rfl (guard_some rfl rfl rfl) (look_tmp rfl) (fun _ => rfl) ?_
          refine o_oloadi 0 rfl type9 T_api_Event_foc4 rfl (guard_some rfl rfl rfl) (look_tmp rfl) (fun h => h) ?_
          refine o_sneq rfl rfl (guard_some rfl rfl rfl) (look_tmp rfl) (look_str (l := []) rfl (by decide)) (fun h => h) (fun _ => rfl) ?_
          refine o_pick rfl rfl (guard_some rfl rfl rfl) (look_tmp rfl) (look_tmp rfl) look_bool (fun h => h) (fun h1 h2 => pick_t ((fun h => h) h1) h2) (fun _ _ => rfl) ?_
          refine o_pick rfl rfl guard_none (look_tmp rfl) look_bool (look_tmp rfl) (fun _ => rfl) (fun _ _ => rfl) (fun h1 h2 => pick_f ((fun _ => rfl) h1) h2) ?_
          refine o_end ?_
          refine den_cond (look_tmp rfl) ?_ ?_
          · refine den_seq ?_
            refine den_region rfl ?_
            refine o_assign rfl rfl guard_none (look_int rfl) (fun _ => rfl) ?_
            refine o_end ?_
            refine den_code_ret ?_
            refine dene_ret ?_
            exact dene_res (res1 rfl (rv_tmp rfl))
          · refine den_skip ?_
            refine den_seq ?_
            refine den_seq ?_
            refine den_region rfl ?_
            refine o_move rfl rfl guard_none (look_tmp rfl) (fun _ => rfl) ?_
            refine o_faddr field30_5 type9 (by decide) rfl rfl guard_none (look_tmp rfl) (fun _ => rfl) ?_
            refine o_oloadi 0 rfl type9 T_api_Event_foc5 rfl guard_none (look_tmp rfl) (fun _ => rfl) ?_
            refine o_call rfl rfl rfl callable25 (looks_cons (look_tmp rfl) (fun _ => rfl) (looks_nil)) (ref06_Name_ok _) (fun z4 => ?_)
            refine o_bneq Tryz.underlying4 rfl rfl guard_none (look_tmp rfl) (look_tmp rfl) (fun _ => rfl) (fun _ => rfl) ?_
            refine o_move rfl rfl guard_none (look_tmp rfl) (fun _ => rfl) ?_
            refine o_move rfl rfl (guard_some rfl rfl rfl) (look_tmp rfl) (fun _ => rfl) ?_
            refine o_not rfl rfl (guard_some rfl rfl rfl) (look_tmp rfl) (fun h => h) ?_
            refine o_move rfl rfl (guard_some rfl rfl rfl) (look_tmp rfl) (fun h => h) ?_
            refine o_faddr field30_5 type9 (by decide) rfl rfl (guard_some rfl rfl rfl) (look_tmp rfl) (fun _ => rfl) ?_
            refine o_oloadi 0 rfl type9 T_api_Event_foc5 rfl (guard_some rfl rfl rfl) (look_tmp rfl) (fun h => h) ?_
            refine o_sneq rfl rfl (guard_some rfl rfl rfl) (look_tmp rfl) (look_str (l := []) rfl (by decide)) (fun h => h) (fun _ => rfl) ?_
            refine o_pick rfl rfl (guard_some rfl rfl rfl) (look_tmp rfl) (look_tmp rfl) look_bool (fun h => h) (fun h1 h2 => pick_t ((fun h => h) h1) h2) (fun _ _ => rfl) ?_
            refine o_pick rfl rfl guard_none (look_tmp rfl) look_bool (look_tmp rfl) (fun _ => rfl) (fun _ _ => rfl) (fun h1 h2 => pick_f ((fun _ => rfl) h1) h2) ?_
            refine o_end ?_
            refine den_cond (look_tmp rfl) ?_ ?_
            · refine den_seq ?_
              refine den_region rfl ?_
              refine o_assign rfl rfl guard_none (look_int rfl) (fun _ => rfl) ?_
              refine o_end ?_
              refine den_code_ret ?_
              refine dene_ret ?_
              exact dene_res (res1 rfl (rv_tmp rfl))
            · refine den_skip ?_
              refine den_seq ?_
              refine den_seq ?_
              refine den_region rfl ?_
              refine o_move rfl rfl guard_none (look_tmp rfl) (fun _ => rfl) ?_
              refine o_move rfl rfl guard_none (look_tmp rfl) (fun _ => rfl) ?_
              refine o_faddr field30_6 type28 (by decide) rfl rfl (guard_some rfl rfl rfl) (look_tmp rfl) (fun _ => rfl) ?_
              refine o_oloadi 0 rfl type28 T_api_Event_foc6 rfl (guard_some rfl rfl rfl) (look_tmp rfl) (fun h => h) ?_
              refine o_callg rfl rfl rfl (guard_some rfl rfl rfl) callable26 (looks_cons (look_tmp rfl) (fun h => h) (looks_nil)) (ref02_Check_ok _) (fun z5 => ?_)
              refine o_neq rfl rfl (guard_some rfl rfl rfl) (look_tmp rfl) (look_int rfl) (fun h => h) (fun _ => rfl) ?_
              refine o_pick rfl rfl guard_none (look_tmp rfl) (look_tmp rfl) look_bool (fun _ => rfl) (fun h1 h2 => pick_t ((fun _ => rfl) h1) h2) (fun _ _ => rfl) ?_
              refine o_move rfl rfl guard_none (look_tmp rfl) (fun _ => rfl) ?_
              refine o_move rfl rfl (guard_some rfl rfl rfl) (look_tmp rfl) (fun _ => rfl) ?_
              refine o_not rfl rfl (guard_some rfl rfl rfl) (look_tmp rfl) (fun h => h) ?_
              refine o_move rfl rfl (guard_some rfl rfl rfl) (look_tmp rfl) (fun h => h) ?_
              refine o_faddr field30_6 type28 (by decide) rfl rfl (guard_some rfl rfl rfl) (look_tmp rfl) (fun _ => rfl) ?_
              refine o_oloadi 0 rfl type28 T_api_Event_foc6 rfl (guard_some rfl rfl rfl) (look_tmp rfl) (fun h => h) ?_
              refine o_callg rfl rfl rfl (guard_some rfl rfl rfl) callable27 (looks_cons (look_tmp rfl) (fun h => h) (looks_nil)) (ref23_empty_ok _) (fun z6 => ?_)
              refine o_not rfl rfl (guard_some rfl rfl rfl) (look_tmp rfl) (fun h => h) ?_
              refine o_pick rfl rfl (guard_some rfl rfl rfl) (look_tmp rfl) (look_tmp rfl) look_bool (fun h => h) (fun h1 h2 => pick_t ((fun h => h) h1) h2) (fun _ _ => rfl) ?_
              refine o_pick rfl rfl guard_none (look_tmp rfl) look_bool (look_tmp rfl) (fun _ => rfl) (fun _ _ => rfl) (fun h1 h2 => pick_f ((fun _ => rfl) h1) h2) ?_
              refine o_end ?_
              refine den_cond (look_tmp rfl) ?_ ?_
              · refine den_seq ?_
                refine den_region rfl ?_
                refine o_assign rfl rfl guard_none (look_int rfl) (fun _ => rfl) ?_
                refine o_end ?_
                refine den_code_ret ?_
                refine dene_ret ?_
                exact dene_res (res1 rfl (rv_tmp rfl))
              · refine den_skip ?_
                refine den_seq ?_
                refine den_region rfl ?_
                refine o_assign rfl rfl guard_none (look_int rfl) (fun _ => rfl) ?_
                refine o_end ?_
                refine den_code_ret ?_
                exact dene_res (res1 rfl (rv_tmp rfl))

theorem ref01_Decimal_ok  (n_0 : Int) : FunOk Tryz.prog 13 [⟨Rep.int .i64, n_0, true⟩] (ref01_Decimal n_0) (Rep.str) := by
  refine fun_ok Tryz.func13 rfl Tryz.ntmps13 rfl (all_cons rfl all_nil) (fun w0 ok0 => ?_)
  refine den_seq ?_
  refine den_region rfl ?_
  refine o_assign rfl rfl guard_none (look_str (l := []) rfl (by decide)) (fun _ => rfl) ?_
  refine o_end ?_
  refine den_seq ?_
  refine den_seq ?_
  refine den_region rfl ?_
  refine o_move rfl rfl guard_none (look_tmp rfl) (fun _ => rfl) ?_
  refine o_eql rfl rfl guard_none (look_tmp rfl) (look_int rfl) (fun _ => rfl) (fun _ => rfl) ?_
  refine o_end ?_
  refine den_cond (look_tmp rfl) ?_ ?_
  · refine den_seq ?_
    refine den_region rfl ?_
    refine o_assign rfl rfl guard_none (look_str (l := [48]) rfl (by decide)) (fun _ => rfl) ?_
    refine o_end ?_
    refine den_code_ret ?_
    refine dene_ret ?_
    exact dene_res (res1 rfl (rv_tmp rfl))
  · refine den_skip ?_
    refine den_seq ?_
    refine den_region rfl ?_
    refine o_assign rfl rfl guard_none (look_str (l := []) rfl (by decide)) (fun _ => rfl) ?_
    refine o_end ?_
    refine den_seq ?_
    refine den_seq ?_
    refine den_region rfl ?_
    refine o_move rfl rfl guard_none (look_tmp rfl) (fun _ => rfl) ?_
    refine o_assign rfl rfl guard_none (look_tmp rfl) (fun _ => rfl) ?_
    refine o_end ?_
    refine den_bind (fun z1 => [(3, ⟨Rep.str, z1, true⟩), (0, ⟨Rep.int .i64, n_0, true⟩)]) (fun z1 => []) ?_ (fun z1 => ?_)
    · refine den_block ?_
      refine den_loop (ref01_Decimal_L1b ) (fun z3 => [(3, ⟨Rep.str, z3.1, true⟩), (4, ⟨Rep.int .i64, z3.2, true⟩), (0, ⟨Rep.int .i64, n_0, true⟩)]) (fun z3 => []) (([] : Bytes), n_0) (fun z3 => ?_) ((sub_env (sube_cons rfl (sube_cons rfl (sube_cons rfl (sube_nil))))))
      refine den_seq ?_
      refine den_seq ?_
      refine den_region rfl ?_
      refine o_move rfl rfl guard_none (look_tmp rfl) (fun _ => rfl) ?_
      refine o_neq rfl rfl guard_none (look_tmp rfl) (look_int rfl) (fun _ => rfl) (fun _ => rfl) ?_
      refine o_end ?_
      refine den_cond (look_tmp rfl) ?_ ?_
      · refine den_skip ?_
        refine den_seq ?_
        refine den_block ?_
        refine den_seq ?_
        refine den_region rfl ?_
        refine o_move rfl rfl guard_none (look_tmp rfl) (fun _ => rfl) ?_
        refine o_rem (by decide) rfl rfl guard_none (look_tmp rfl) (look_int rfl) (fun _ => rfl) (fun _ => rfl) ?_
        refine o_assign rfl rfl guard_none (look_tmp rfl) (fun _ => rfl) ?_
        refine o_end ?_
        refine den_seq ?_
        refine den_seq ?_
        refine den_region rfl ?_
        refine o_move rfl rfl guard_none (look_tmp rfl) (fun _ => rfl) ?_
        refine o_lss rfl rfl guard_none (look_tmp rfl) (look_int rfl) (fun _ => rfl) (fun _ => rfl) ?_
        refine o_end ?_
        refine den_cond (look_tmp rfl) ?_ ?_
        · refine den_region rfl ?_
          refine o_move rfl rfl guard_none (look_tmp rfl) (fun _ => rfl) ?_
          refine o_neg rfl rfl guard_none (look_tmp rfl) (fun _ => rfl) ?_
          refine o_assign rfl rfl guard_none (look_tmp rfl) (fun _ => rfl) ?_
          refine o_lt (fun d4 => ?_)
          refine o_end ?_
          refine den_region rfl ?_
          refine o_move rfl rfl guard_none (look_tmp rfl) (fun _ => rfl) ?_
          refine o_add rfl rfl guard_none (look_int rfl) (look_tmp rfl) (fun _ => rfl) (fun _ => rfl) ?_
          refine o_conv Tryz.underlying2 Tryz.underlying5 rfl rfl guard_none (look_tmp rfl) (fun _ => rfl) ?_
          refine o_bslice Tryz.underlying47 (info_i info5) (info_z info5) type5 rfl rfl rfl rfl rfl rfl guard_none (looksL_cons (look_tmp rfl) (fun _ => rfl) (looksL_nil)) ?_
          refine o_bts Tryz.underlying47 Tryz.underlying5 Tryz.underlying9 rfl rfl guard_none (look_tmp rfl) (fun _ => rfl) ?_
          refine o_move rfl rfl guard_none (look_tmp rfl) (fun _ => rfl) ?_
          refine o_sadd rfl rfl (look_tmp rfl) (look_tmp rfl) rfl rfl (fun z5 => ?_)
          refine o_assign rfl rfl guard_none (look_tmp rfl) (fun _ => rfl) ?_
          refine o_end ?_
          refine den_blkend ?_
          refine den_region rfl ?_
          refine o_move rfl rfl guard_none (look_tmp rfl) (fun _ => rfl) ?_
          refine o_quo rfl rfl guard_none (look_tmp rfl) (look_int rfl) (fun _ => rfl) (fun _ => rfl) (by decide) ?_
          refine o_assign rfl rfl guard_none (look_tmp rfl) (fun _ => rfl) ?_
          refine o_end ?_
          refine den_next ((sub_env (sube_cons rfl (sube_cons rfl (sube_cons rfl (sube_nil))))))
        · refine den_skip ?_
          refine den_region rfl ?_
          refine o_move rfl rfl guard_none (look_tmp rfl) (fun _ => rfl) ?_
          refine o_add rfl rfl guard_none (look_int rfl) (look_tmp rfl) (fun _ => rfl) (fun _ => rfl) ?_
          refine o_conv Tryz.underlying2 Tryz.underlying5 rfl rfl guard_none (look_tmp rfl) (fun _ => rfl) ?_
          refine o_bslice Tryz.underlying47 (info_i info5) (info_z info5) type5 rfl rfl rfl rfl rfl rfl guard_none (looksL_cons (look_tmp rfl) (fun _ => rfl) (looksL_nil)) ?_
          refine o_bts Tryz.underlying47 Tryz.underlying5 Tryz.underlying9 rfl rfl guard_none (look_tmp rfl) (fun _ => rfl) ?_
          refine o_move rfl rfl guard_none (look_tmp rfl) (fun _ => rfl) ?_
          refine o_sadd rfl rfl (look_tmp rfl) (look_tmp rfl) rfl rfl (fun z6 => ?_)
          refine o_assign rfl rfl guard_none (look_tmp rfl) (fun _ => rfl) ?_
          refine o_end ?_
          refine den_blkend ?_
          refine den_region rfl ?_
          refine o_move rfl rfl guard_none (look_tmp rfl) (fun _ => rfl) ?_
          refine o_quo rfl rfl guard_none (look_tmp rfl) (look_int rfl) (fun _ => rfl) (fun _ => rfl) (by decide) ?_
          refine o_assign rfl rfl guard_none (look_tmp rfl) (fun _ => rfl) ?_
          refine o_end ?_
          refine den_next ((sub_env (sube_cons rfl (sube_cons rfl (sube_cons rfl (sube_nil))))))
      · refine den_code_exit ?_
        refine dene_out rfl ?_
        refine dene_loop (by simp) ?_
        refine dene_to rfl ?_
        refine den_end ((sub_env (sube_cons rfl (sube_cons rfl (sube_nil)))))
    refine den_seq ?_
    refine den_seq ?_
    refine den_region rfl ?_
    refine o_move rfl rfl guard_none (look_tmp rfl) (fun _ => rfl) ?_
    refine o_lss rfl rfl guard_none (look_tmp rfl) (look_int rfl) (fun _ => rfl) (fun _ => rfl) ?_
    refine o_end ?_
    refine den_cond (look_tmp rfl) ?_ ?_
    · refine den_region rfl ?_
      refine o_move rfl rfl guard_none (look_tmp rfl) (fun _ => rfl) ?_
      refine o_sadd rfl rfl (look_str (l := [45]) rfl (by decide)) (look_tmp rfl) rfl rfl (fun z2 => ?_)
      refine o_assign rfl rfl guard_none (look_tmp rfl) (fun _ => rfl) ?_
      refine o_end ?_
      refine den_seq ?_
      refine den_region rfl ?_
      refine o_move rfl rfl guard_none (look_tmp rfl) (fun _ => rfl) ?_
      refine o_assign rfl rfl guard_none (look_tmp rfl) (fun _ => rfl) ?_
      refine o_end ?_
      refine den_code_ret ?_
      exact dene_res (res1 rfl (rv_tmp rfl))
    · refine den_skip ?_
      refine den_seq ?_
      refine den_region rfl ?_
      refine o_move rfl rfl guard_none (look_tmp rfl) (fun _ => rfl) ?_
      refine o_assign rfl rfl guard_none (look_tmp rfl) (fun _ => rfl) ?_
      refine o_end ?_
      refine den_code_ret ?_
      exact dene_res (res1 rfl (rv_tmp rfl))

theorem ref06_Plain_ok  (s_0 : Bytes) : FunOk Tryz.prog 28 [⟨Rep.str, s_0, true⟩] (ref06_Plain s_0) (Rep.bool) := by
  refine fun_ok Tryz.func28 rfl Tryz.ntmps28 rfl (all_cons rfl all_nil) (fun w0 ok0 => ?_)
  refine den_seq ?_
  refine den_region rfl ?_
  refine o_assign rfl rfl guard_none look_bool (fun _ => rfl) ?_
  refine o_end ?_
  refine den_seq ?_
  refine den_seq ?_
  refine den_region rfl ?_
  refine o_move rfl rfl guard_none (look_tmp rfl) (fun _ => rfl) ?_
  refine o_slen Tryz.underlying9 rfl rfl guard_none (look_tmp rfl) (fun _ => rfl) ?_
  refine o_gtr rfl rfl guard_none (look_tmp rfl) (look_int rfl) (fun _ => rfl) (fun _ => rfl) ?_
  refine o_end ?_
  refine den_cond (look_tmp rfl) ?_ ?_
  · refine den_seq ?_
    refine den_region rfl ?_
    refine o_assign rfl rfl guard_none look_bool (fun _ => rfl) ?_
    refine o_end ?_
    refine den_code_ret ?_
    refine dene_ret ?_
    exact dene_res (res1 rfl (rv_tmp rfl))
  · refine den_skip ?_
    refine den_seq ?_
    refine den_seq ?_
    refine den_region rfl ?_
    refine o_assign rfl rfl guard_none (look_int rfl) (fun _ => rfl) ?_
    refine o_end ?_
    refine den_both (fun z1 => []) (fun z1 => []) ?_ (fun z1 => ?_)
    · refine den_block ?_
      refine den_loop (ref06_Plain_L1b s_0) (fun z2 => [(3, ⟨Rep.int .i64, z2, true⟩), (0, ⟨Rep.str, s_0, true⟩)]) (fun z2 => []) 0 (fun z2 => ?_) ((sub_env (sube_cons rfl (sube_cons rfl (sube_nil)))))
      refine den_seq ?_
      refine den_seq ?_
      refine den_region rfl ?_
      refine o_move rfl rfl guard_none (look_tmp rfl) (fun _ => rfl) ?_
      refine o_move rfl rfl guard_none (look_tmp rfl) (fun _ => rfl) ?_
      refine o_slen Tryz.underlying9 rfl rfl guard_none (look_tmp rfl) (fun _ => rfl) ?_
      refine o_lss rfl rfl guard_none (look_tmp rfl) (look_tmp rfl) (fun _ => rfl) (fun _ => rfl) ?_
      refine o_end ?_
      refine den_cond (look_tmp rfl) ?_ ?_
      · refine den_skip ?_
        refine den_seq ?_
        refine den_block ?_
        refine den_seq ?_
        refine den_region rfl ?_
        refine o_move rfl rfl guard_none (look_tmp rfl) (fun _ => rfl) ?_
        refine o_move rfl rfl guard_none (look_tmp rfl) (fun _ => rfl) ?_
        refine o_sidx Tryz.underlying9 rfl rfl (look_tmp rfl) (look_tmp rfl) rfl rfl (fun z3 => ?_)
        refine o_eql rfl rfl guard_none (look_tmp rfl) (look_int rfl) (fun _ => rfl) (fun _ => rfl) ?_
        refine o_move rfl rfl guard_none (look_tmp rfl) (fun _ => rfl) ?_
        refine o_move rfl rfl (guard_some rfl rfl rfl) (look_tmp rfl) (fun _ => rfl) ?_
        refine o_move rfl rfl (guard_some rfl rfl rfl) (look_tmp rfl) (fun _ => rfl) ?_
        refine o_sidxg Tryz.underlying9 rfl rfl (guard_some rfl rfl rfl) (look_tmp rfl) (look_tmp rfl) (fun h => h) (fun h => h) (fun z4 => ?_)
        refine o_eql rfl rfl (guard_some rfl rfl rfl) (look_tmp rfl) (look_int rfl) (fun h => h) (fun _ => rfl) ?_
        refine o_pick rfl rfl guard_none (look_tmp rfl) look_bool (look_tmp rfl) (fun _ => rfl) (fun _ _ => rfl) (fun h1 h2 => pick_f ((fun _ => rfl) h1) h2) ?_
        refine o_end ?_
        refine den_cond (look_tmp rfl) ?_ ?_
        · refine den_seq ?_
          refine den_region rfl ?_
          refine o_assign rfl rfl guard_none look_bool (fun _ => rfl) ?_
          refine o_end ?_
          refine den_code_ret ?_
          refine dene_ret ?_
          refine dene_loop (by simp) ?_
          refine dene_ret ?_
          refine dene_both (by simp) ?_
          refine dene_ret ?_
          exact dene_res (res1 rfl (rv_tmp rfl))
        · refine den_skip ?_
          refine den_blkend ?_
          refine den_region rfl ?_
          refine o_move rfl rfl guard_none (look_tmp rfl) (fun _ => rfl) ?_
          refine o_add rfl rfl guard_none (look_tmp rfl) (look_int rfl) (fun _ => rfl) (fun _ => rfl) ?_
          refine o_assign rfl rfl guard_none (look_tmp rfl) (fun _ => rfl) ?_
          refine o_end ?_
          refine den_next ((sub_env (sube_cons rfl (sube_cons rfl (sube_nil)))))
      · refine den_code_exit ?_
        refine dene_out rfl ?_
        refine dene_loop (by simp) ?_
        refine dene_to rfl ?_
        refine den_endl ((sub_env (sube_nil)))
    refine den_seq ?_
    refine den_region rfl ?_
    refine o_assign rfl rfl guard_none look_bool (fun _ => rfl) ?_
    refine o_end ?_
    refine den_code_ret ?_
    exact dene_res (res1 rfl (rv_tmp rfl))

theorem ref28_value_ok  (v_0 : T_api_Value) : FunOk Tryz.prog 14 [⟨T_api_Value_rep, v_0, true⟩] (ref28_value v_0) (Rep.pair (Rep.str) (Rep.bool)) := by
  refine fun_ok Tryz.func14 rfl Tryz.ntmps14 rfl (all_cons rfl all_nil) (fun w0 ok0 => ?_)
  refine den_seq ?_
  refine den_region rfl ?_
  refine o_box rfl rfl (look_tmp rfl) rfl (fun z1 => ?_)
  refine o_assign rfl rfl guard_none (look_str (l := []) rfl (by decide)) (fun _ => rfl) ?_
  refine o_assign rfl rfl guard_none look_bool (fun _ => rfl) ?_
  refine o_end ?_
  refine den_seq ?_
  refine den_seq ?_
  refine den_region rfl ?_
  refine o_faddr field28_0 type3 (by decide) rfl rfl guard_none (look_tmp rfl) (fun _ => rfl) ?_
  refine o_oloadi 0 rfl type3 T_api_Value_foc0 rfl guard_none (look_tmp rfl) (fun _ => rfl) ?_
  refine o_eql rfl rfl guard_none (look_tmp rfl) (look_int rfl) (fun _ => rfl) (fun _ => rfl) ?_
  refine o_end ?_
  refine den_cond (look_tmp rfl) ?_ ?_
  · refine den_seq ?_
    refine den_region rfl ?_
    refine o_faddr field28_1 type2 (by decide) rfl rfl guard_none (look_tmp rfl) (fun _ => rfl) ?_
    refine o_oloadi 0 rfl type2 T_api_Value_foc1 rfl guard_none (look_tmp rfl) (fun _ => rfl) ?_
    refine o_call rfl rfl rfl callable13 (looks_cons (look_tmp rfl) (fun _ => rfl) (looks_nil)) (ref01_Decimal_ok _) (fun z2 => ?_)
    refine o_assign rfl rfl guard_none (look_tmp rfl) (fun _ => rfl) ?_
    refine o_assign rfl rfl guard_none look_bool (fun _ => rfl) ?_
    refine o_end ?_
    refine den_code_ret ?_
    refine dene_ret ?_
    exact dene_res (res2 rfl (rv_tmp rfl) (rv_tmp rfl))
  · refine den_skip ?_
    refine den_seq ?_
    refine den_seq ?_
    refine den_region rfl ?_
    refine o_faddr field28_0 type3 (by decide) rfl rfl guard_none (look_tmp rfl) (fun _ => rfl) ?_
    refine o_oloadi 0 rfl type3 T_api_Value_foc0 rfl guard_none (look_tmp rfl) (fun _ => rfl) ?_
    refine o_eql rfl rfl guard_none (look_tmp rfl) (look_int rfl) (fun _ => rfl) (fun _ => rfl) ?_
    refine o_move rfl rfl guard_none (look_tmp rfl) (fun _ => rfl) ?_
    refine o_faddr field28_1 type2 (by decide) rfl rfl (guard_some rfl rfl rfl) (look_tmp rfl) (fun _ => rfl) ?_
    refine o_oloadi 0 rfl type2 T_api_Value_foc1 rfl (guard_some rfl rfl rfl) (look_tmp rfl) (fun h => h) ?_
    refine o_eql rfl rfl (guard_some rfl rfl rfl) (look_tmp rfl) (look_int rfl) (fun h => h) (fun _ => rfl) ?_
    refine o_pick rfl rfl guard_none (look_tmp rfl) (look_tmp rfl) look_bool (fun _ => rfl) (fun h1 h2 => pick_t ((fun _ => rfl) h1) h2) (fun _ _ => rfl) ?_
    refine o_end ?_
    refine den_cond (look_tmp rfl) ?_ ?_
    · refine den_seq ?_
      refine den_region rfl ?_
      refine o_assign rfl rfl guard_none (look_str (l := [116, 114, 117, 101]) rfl (by decide)) (fun _ => rfl) ?_
      refine o_assign rfl rfl guard_none look_bool (fun _ => rfl) ?_
      refine o_end ?_
      refine den_code_ret ?_
      refine dene_ret ?_
      exact dene_res (res2 rfl (rv_tmp rfl) (rv_tmp rfl))
    · refine den_skip ?_
      refine den_seq ?_
      refine den_seq ?_
      refine den_region rfl ?_
      refine o_faddr field28_0 type3 (by decide) rfl rfl guard_none (look_tmp rfl) (fun _ => rfl) ?_
      refine o_oloadi 0 rfl type3 T_api_Value_foc0 rfl guard_none (look_tmp rfl) (fun _ => rfl) ?_
      refine o_eql rfl rfl guard_none (look_tmp rfl) (look_int rfl) (fun _ => rfl) (fun _ => rfl) ?_
      refine o_end ?_
      refine den_cond (look_tmp rfl) ?_ ?_
      · refine den_seq ?_
        refine den_region rfl ?_
        refine o_assign rfl rfl guard_none (look_str (l := [102, 97, 108, 115, 101]) rfl (by decide)) (fun _ => rfl) ?_
        refine o_assign rfl rfl guard_none look_bool (fun _ => rfl) ?_
        refine o_end ?_
        refine den_code_ret ?_
        refine dene_ret ?_
        exact dene_res (res2 rfl (rv_tmp rfl) (rv_tmp rfl))
      · refine den_skip ?_
        refine den_seq ?_
        refine den_seq ?_
        refine den_region rfl ?_
        refine o_faddr field28_0 type3 (by decide) rfl rfl guard_none (look_tmp rfl) (fun _ => rfl) ?_
        refine o_oloadi 0 rfl type3 T_api_Value_foc0 rfl guard_none (look_tmp rfl) (fun _ => rfl) ?_
        refine o_eql rfl rfl guard_none (look_tmp rfl) (look_int rfl) (fun _ => rfl) (fun _ => rfl) ?_
        refine o_end ?_
        refine den_cond (look_tmp rfl) ?_ ?_
        · refine den_seq ?_
          refine den_open (fun z3 h_z3 => ?_)
          refine den_open (fun z4 h_z4 => ?_)
          refine den_open (fun z5 h_z5 => ?_)
          refine den_draw [(26, ⟨Rep.addr, (z1, 0 + 2), true⟩), (27, ⟨Rep.str, v_0.S, true⟩), (28, ⟨Rep.str, z3, true⟩), (29, ⟨Rep.str, z4, true⟩), (30, ⟨Rep.addr, (z1, 0 + 2), true⟩), (31, ⟨Rep.str, v_0.S, true⟩), (32, ⟨Rep.bool, z5, true⟩), (2, ⟨Rep.str, z4, true⟩), (3, ⟨Rep.bool, z5, true⟩)] mixed rfl rfl ⟨?_, ?_, ?_, ?_, ?_, ?_, ?_, ?_, ?_, trivial⟩ ?_
          · intro S hc hk hp
            refine o_faddr field28_2 type9 (by decide) rfl rfl guard_none (look_o rfl rfl) (fun _ => rfl) ?_
            exact d_end rfl rfl rfl
          · intro S hc hk hp
            refine o_oloadi 0 rfl type9 T_api_Value_foc2 rfl guard_none (look_d rfl rfl (pr hp 0 rfl rfl)) (fun _ => rfl) ?_
            exact d_end rfl rfl rfl
          · intro S hc hk hp
            refine o_from (bind_eqO h_z3) ?_
            refine o_sadd rfl rfl (look_str (l := [34]) rfl (by decide)) (look_d rfl rfl (pr hp 0 rfl rfl)) rfl rfl (o_eqO ?_)
            exact d_end rfl rfl rfl
          · intro S hc hk hp
            refine o_from (bind_eqO h_z4) ?_
            refine o_sadd rfl rfl (look_d rfl rfl (pr hp 0 rfl rfl)) (look_str (l := [34]) rfl (by decide)) rfl rfl (o_eqO ?_)
            exact d_end rfl rfl rfl
          · intro S hc hk hp
            refine o_faddr field28_2 type9 (by decide) rfl rfl guard_none (look_o rfl rfl) (fun _ => rfl) ?_
            exact d_end rfl rfl rfl
          · intro S hc hk hp
            refine o_oloadi 0 rfl type9 T_api_Value_foc2 rfl guard_none (look_d rfl rfl (pr hp 0 rfl rfl)) (fun _ => rfl) ?_
            exact d_end rfl rfl rfl
          · intro S hc hk hp
            refine o_from (bind_eqO h_z5) ?_
            refine o_call rfl rfl rfl callable28 (looks_cons (look_d rfl rfl (pr hp 0 rfl rfl)) (fun _ => rfl) (looks_nil)) (ref06_Plain_ok _) (o_eqO ?_)
            exact d_end rfl rfl rfl
          · intro S hc hk hp
            refine o_assign rfl rfl guard_none (look_d rfl rfl (pr hp 0 rfl rfl)) (fun _ => rfl) ?_
            exact d_end rfl rfl rfl
          · intro S hc hk hp
            refine o_assign rfl rfl guard_none (look_d rfl rfl (pr hp 0 rfl rfl)) (fun _ => rfl) ?_
            exact d_end rfl rfl rfl
          refine den_code_ret ?_
          refine dene_ret ?_
          exact dene_res (res2 rfl (rv_tmp rfl) (rv_tmp rfl))
        · refine den_skip ?_
          refine den_seq ?_
          refine den_region rfl ?_
          refine o_assign rfl rfl guard_none (look_str (l := [123]) rfl (by decide)) (fun _ => rfl) ?_
          refine o_end ?_
          refine den_seq ?_
          refine den_seq ?_
          refine den_region rfl ?_
          refine o_assign rfl rfl guard_none (look_int rfl) (fun _ => rfl) ?_
          refine o_end ?_
          refine den_both (fun z6 => [(4, ⟨Rep.str, z6, true⟩)]) (fun z6 => []) ?_ (fun z6 => ?_)
          · refine den_block ?_
            refine den_loop (ref28_value_L1b v_0) (fun z8 => [(4, ⟨Rep.str, z8.1, true⟩), (5, ⟨Rep.int .i64, z8.2, true⟩), (1, ⟨Rep.addr, (z1, 0), true⟩)]) (fun z8 => [.obj true z1 0 (.dat T_api_Value_rep) v_0]) (([123] : Bytes), 0) (fun z8 => ?_) ((sub_env (sube_cons rfl (sube_cons rfl (sube_cons rfl (sube_nil))))))
            refine den_seq ?_
            refine den_seq ?_
            refine den_region rfl ?_
            refine o_move rfl rfl guard_none (look_tmp rfl) (fun _ => rfl) ?_
            refine o_faddr field28_3 type26 (by decide) rfl rfl guard_none (look_tmp rfl) (fun _ => rfl) ?_
            refine o_oloadi 0 rfl type26 T_api_Value_foc3 rfl guard_none (look_tmp rfl) (fun _ => rfl) ?_
            refine o_llen Tryz.underlying26 rfl rfl guard_none (look_tmp rfl) (fun _ => rfl) ?_
            refine o_lss rfl rfl guard_none (look_tmp rfl) (look_tmp rfl) (fun _ => rfl) (fun _ => rfl) ?_
            refine o_end ?_
            refine den_cond (look_tmp rfl) ?_ ?_
            · refine den_skip ?_
              refine den_seq ?_
              refine den_block ?_
              refine den_seq ?_
              refine den_seq ?_
              refine den_region rfl ?_
              refine o_faddr field28_3 type26 (by decide) rfl rfl guard_none (look_tmp rfl) (fun _ => rfl) ?_
              refine o_oloadi 0 rfl type26 T_api_Value_foc3 rfl guard_none (look_tmp rfl) (fun _ => rfl) ?_
              refine o_move rfl rfl guard_none (look_tmp rfl) (fun _ => rfl) ?_
              refine o_iaddr Tryz.underlying26 type9 rfl rfl (look_tmp rfl) (look_tmp rfl) rfl rfl (fun z9 => ?_)
              refine o_load type9 rfl rfl guard_none (look_tmp rfl) (fun _ => rfl) ?_
              refine o_call rfl rfl rfl callable28 (looks_cons (look_tmp rfl) (fun _ => rfl) (looks_nil)) (ref06_Plain_ok _) (fun z10 => ?_)
              refine o_not rfl rfl guard_none (look_tmp rfl) (fun _ => rfl) ?_
              refine o_end ?_
              refine den_cond (look_tmp rfl) ?_ ?_
              · refine den_seq ?_
                refine den_region rfl ?_
                refine o_assign rfl rfl guard_none (look_str (l := []) rfl (by decide)) (fun _ => rfl) ?_
                refine o_assign rfl rfl guard_none look_bool (fun _ => rfl) ?_
                refine o_end ?_
                refine den_code_ret ?_
                refine dene_ret ?_
                refine dene_loop (by simp) ?_
                refine dene_ret ?_
                refine dene_both (by simp) ?_
                refine dene_ret ?_
                exact dene_res (res2 rfl (rv_tmp rfl) (rv_tmp rfl))
              · refine den_skip ?_
                refine den_seq ?_
                refine den_seq ?_
                refine den_region rfl ?_
                refine o_move rfl rfl guard_none (look_tmp rfl) (fun _ => rfl) ?_
                refine o_gtr rfl rfl guard_none (look_tmp rfl) (look_int rfl) (fun _ => rfl) (fun _ => rfl) ?_
                refine o_end ?_
                refine den_bind (fun z11 => [(4, ⟨Rep.str, z11, true⟩), (1, ⟨Rep.addr, (z1, 0), true⟩), (5, ⟨Rep.int .i64, z8.2, true⟩)]) (fun z11 => [.obj true z1 0 (.dat T_api_Value_rep) v_0]) ?_ (fun z11 => ?_)
                · refine den_cond (look_tmp rfl) ?_ ?_
                  · refine den_region rfl ?_
                    refine o_move rfl rfl guard_none (look_tmp rfl) (fun _ => rfl) ?_
                    refine o_sadd rfl rfl (look_tmp rfl) (look_str (l := [44]) rfl (by decide)) rfl rfl (fun z16 => ?_)
                    refine o_assign rfl rfl guard_none (look_tmp rfl) (fun _ => rfl) ?_
                    refine o_end ?_
                    refine den_end ((sub_env (sube_cons rfl (sube_cons rfl (sube_cons rfl (sube_nil))))))
                  · refine den_skip ?_
                    refine den_end ((sub_env (sube_cons rfl (sube_cons rfl (sube_cons rfl (sube_nil))))))
                refine den_region rfl ?_
                refine o_move rfl rfl guard_none (look_tmp rfl) (fun _ => rfl) ?_
                refine o_sadd rfl rfl (look_tmp rfl) (look_str (l := [34]) rfl (by decide)) rfl rfl (fun z12 => ?_)
                refine o_faddr field28_3 type26 (by decide) rfl rfl guard_none (look_tmp rfl) (fun _ => rfl) ?_
                refine o_oloadi 0 rfl type26 T_api_Value_foc3 rfl guard_none (look_tmp rfl) (fun _ => rfl) ?_
                refine o_move rfl rfl guard_none (look_tmp rfl) (fun _ => rfl) ?_
                refine o_iaddr Tryz.underlying26 type9 rfl rfl (look_tmp rfl) (look_tmp rfl) rfl rfl (fun z13 => ?_)
                refine o_load type9 rfl rfl guard_none (look_tmp rfl) (fun _ => rfl) ?_
                refine o_sadd rfl rfl (look_tmp rfl) (look_tmp rfl) rfl rfl (fun z14 => ?_)
                refine o_sadd rfl rfl (look_tmp rfl) (look_str (l := [34]) rfl (by decide)) rfl rfl (fun z15 => ?_)
                refine o_assign rfl rfl guard_none (look_tmp rfl) (fun _ => rfl) ?_
                refine o_end ?_
                refine den_blkend ?_
                refine den_region rfl ?_
                refine o_move rfl rfl guard_none (look_tmp rfl) (fun _ => rfl) ?_
                refine o_add rfl rfl guard_none (look_tmp rfl) (look_int rfl) (fun _ => rfl) (fun _ => rfl) ?_
                refine o_assign rfl rfl guard_none (look_tmp rfl) (fun _ => rfl) ?_
                refine o_end ?_
                refine den_next ((sub_env (sube_cons rfl (sube_cons rfl (sube_cons rfl (sube_nil))))))
            · refine den_code_exit ?_
              refine dene_out rfl ?_
              refine dene_loop (by simp) ?_
              refine dene_to rfl ?_
              refine den_endl ((Sub.trans (sub_pick [] rfl rfl) (sub_env (sube_cons rfl (sube_nil)))))
          refine den_seq ?_
          refine den_region rfl ?_
          refine o_move rfl rfl guard_none (look_tmp rfl) (fun _ => rfl) ?_
          refine o_sadd rfl rfl (look_tmp rfl) (look_str (l := [125]) rfl (by decide)) rfl rfl (fun z7 => ?_)
          refine o_assign rfl rfl guard_none (look_tmp rfl) (fun _ => rfl) ?_
          refine o_assign rfl rfl guard_none look_bool (fun _ => rfl) ?_
          refine o_end ?_
          refine den_code_ret ?_
          exact dene_res (res2 rfl (rv_tmp rfl) (rv_tmp rfl))

theorem ref28_Line_ok  (e_0 : T_api_Event) : FunOk Tryz.prog 5 [⟨T_api_Event_rep, e_0, true⟩] (ref28_Line e_0) (Rep.pair (Rep.str) (Rep.int .i64)) := by
  refine fun_ok Tryz.func5 rfl Tryz.ntmps5 rfl (all_cons rfl all_nil) (fun w0 ok0 => ?_)
  refine den_seq ?_
  refine den_region rfl ?_
  refine o_box rfl rfl (look_tmp rfl) rfl (fun z1 => ?_)
  refine o_assign rfl rfl guard_none (look_str (l := []) rfl (by decide)) (fun _ => rfl) ?_
  refine o_assign rfl rfl guard_none (look_int rfl) (fun _ => rfl) ?_
  refine o_end ?_
  refine den_seq ?_
  refine den_seq ?_
  refine den_region rfl ?_
  refine o_oloadi 0 rfl type30 foc_self rfl guard_none (look_tmp rfl) (fun _ => rfl) ?_
  refine o_call rfl rfl rfl callable12 (looks_cons (look_tmp rfl) (fun _ => rfl) (looks_nil)) (ref23_Check_ok _) (fun z2 => ?_)
  refine o_assign rfl rfl guard_none (look_tmp rfl) (fun _ => rfl) ?_
  refine o_end ?_
  refine den_seq ?_
  refine den_region rfl ?_
  refine o_move rfl rfl guard_none (look_tmp rfl) (fun _ => rfl) ?_
  refine o_neq rfl rfl guard_none (look_tmp rfl) (look_int rfl) (fun _ => rfl) (fun _ => rfl) ?_
  refine o_end ?_
  refine den_cond (look_tmp rfl) ?_ ?_
  · refine den_seq ?_
    refine den_region rfl ?_
    refine o_move rfl rfl guard_none (look_tmp rfl) (fun _ => rfl) ?_
    refine o_assign rfl rfl guard_none (look_str (l := []) rfl (by decide)) (fun _ => rfl) ?_
    refine o_assign rfl rfl guard_none (look_tmp rfl) (fun _ => rfl) ?_
    refine o_end ?_
    refine den_code_ret ?_
    refine dene_ret ?_
    exact dene_res (res2 rfl (rv_tmp rfl) (rv_tmp rfl))
  · refine den_skip ?_
    refine den_seq ?_
    refine den_open (fun z3 h_z3 => ?_)
    refine den_open (fun z4 h_z4 => ?_)
    refine den_open (fun z5 h_z5 => ?_)
    refine den_draw [(14, ⟨Rep.addr, (z1, 0), true⟩), (15, ⟨Rep.int .i64, e_0.At, true⟩), (16, ⟨Rep.str, z3, true⟩), (17, ⟨Rep.str, z4, true⟩), (18, ⟨Rep.addr, (z1, 0 + 2), true⟩), (19, ⟨Rep.int .i64, e_0.Id, true⟩), (20, ⟨Rep.str, z5, true⟩), (5, ⟨Rep.str, z4, true⟩), (6, ⟨Rep.str, z5, true⟩)] mixed rfl rfl ⟨?_, ?_, ?_, ?_, ?_, ?_, ?_, ?_, ?_, trivial⟩ ?_
    · intro S hc hk hp
      refine o_faddr field30_0 type2 (by decide) rfl rfl guard_none (look_o rfl rfl) (fun _ => rfl) ?_
      exact d_end rfl rfl rfl
    · intro S hc hk hp
      refine o_oloadi 0 rfl type2 T_api_Event_foc0 rfl guard_none (look_d rfl rfl (pr hp 0 rfl rfl)) (fun _ => rfl) ?_
      exact d_end rfl rfl rfl
    · intro S hc hk hp
      refine o_from (bind_eqO h_z3) ?_
      refine o_call rfl rfl rfl callable13 (looks_cons (look_d rfl rfl (pr hp 0 rfl rfl)) (fun _ => rfl) (looks_nil)) (ref01_Decimal_ok _) (o_eqO ?_)
      exact d_end rfl rfl rfl
    · intro S hc hk hp
      refine o_from (bind_eqO h_z4) ?_
      refine o_sadd rfl rfl (look_d rfl rfl (pr hp 0 rfl rfl)) (look_str (l := [32]) rfl (by decide)) rfl rfl (o_eqO ?_)
      exact d_end rfl rfl rfl
    · intro S hc hk hp
      refine o_faddr field30_2 type3 (by decide) rfl rfl guard_none (look_o rfl rfl) (fun _ => rfl) ?_
      exact d_end rfl rfl rfl
    · intro S hc hk hp
      refine o_oloadi 0 rfl type3 T_api_Event_foc2 rfl guard_none (look_d rfl rfl (pr hp 0 rfl rfl)) (fun _ => rfl) ?_
      exact d_end rfl rfl rfl
    · intro S hc hk hp
      refine o_from (bind_eqO h_z5) ?_
      refine o_call rfl rfl rfl callable13 (looks_cons (look_d rfl rfl (pr hp 0 rfl rfl)) (fun _ => rfl) (looks_nil)) (ref01_Decimal_ok _) (o_eqO ?_)
      exact d_end rfl rfl rfl
    · intro S hc hk hp
      refine o_assign rfl rfl guard_none (look_d rfl rfl (pr hp 0 rfl rfl)) (fun _ => rfl) ?_
      exact d_end rfl rfl rfl
    · intro S hc hk hp
      refine o_assign rfl rfl guard_none (look_d rfl rfl (pr hp 0 rfl rfl)) (fun _ => rfl) ?_
      exact d_end rfl rfl rfl
    refine den_seq ?_
    refine den_seq ?_
    refine den_region rfl ?_
    refine o_faddr field30_1 type3 (by decide) rfl rfl guard_none (look_tmp rfl) (fun _ => rfl) ?_
    refine o_oloadi 0 rfl type3 T_api_Event_foc1 rfl guard_none (look_tmp rfl) (fun _ => rfl) ?_
    refine o_eql rfl rfl guard_none (look_tmp rfl) (look_int rfl) (fun _ => rfl) (fun _ => rfl) ?_
    refine o_end ?_
    refine den_cond (look_tmp rfl) ?_ ?_
    · refine den_seq ?_
      refine den_region rfl ?_
      refine o_move rfl rfl guard_none (look_tmp rfl) (fun _ => rfl) ?_
      refine o_sadd rfl rfl (look_tmp rfl) (look_str (l := [116, 114, 121, 32]) rfl (by decide)) rfl rfl (fun z6 => ?_)
      refine o_move rfl rfl guard_none (look_tmp rfl) (fun _ => rfl) ?_
      refine o_sadd rfl rfl (look_tmp rfl) (look_tmp rfl) rfl rfl (fun z7 => ?_)
      refine o_sadd rfl rfl (look_tmp rfl) (look_str (l := [32]) rfl (by decide)) rfl rfl (fun z8 => ?_)
      refine o_faddr field30_3 type9 (by decide) rfl rfl guard_none (look_tmp rfl) (fun _ => rfl) ?_
      refine o_oloadi 0 rfl type9 T_api_Event_foc3 rfl guard_none (look_tmp rfl) (fun _ => rfl) ?_
      refine o_sadd rfl rfl (look_tmp rfl) (look_tmp rfl) rfl rfl (fun z9 => ?_)
      refine o_sadd rfl rfl (look_tmp rfl) (look_str (l := [32]) rfl (by decide)) rfl rfl (fun z10 => ?_)
      refine o_faddr field30_4 type9 (by decide) rfl rfl guard_none (look_tmp rfl) (fun _ => rfl) ?_
      refine o_oloadi 0 rfl type9 T_api_Event_foc4 rfl guard_none (look_tmp rfl) (fun _ => rfl) ?_
      refine o_sadd rfl rfl (look_tmp rfl) (look_tmp rfl) rfl rfl (fun z11 => ?_)
      refine o_sadd rfl rfl (look_tmp rfl) (look_str (l := [32]) rfl (by decide)) rfl rfl (fun z12 => ?_)
      refine o_faddr field30_5 type9 (by decide) rfl rfl guard_none (look_tmp rfl) (fun _ => rfl) ?_
      refine o_oloadi 0 rfl type9 T_api_Event_foc5 rfl guard_none (look_tmp rfl) (fun _ => rfl) ?_
      refine o_sadd rfl rfl (look_tmp rfl) (look_tmp rfl) rfl rfl (fun z13 => ?_)
      refine o_assign rfl rfl guard_none (look_tmp rfl) (fun _ => rfl) ?_
      refine o_assign rfl rfl guard_none (look_int rfl) (fun _ => rfl) ?_
      refine o_end ?_
      refine den_code_ret ?_
      refine dene_ret ?_
      exact dene_res (res2 rfl (rv_tmp rfl) (rv_tmp rfl))
    · refine den_skip ?_
      refine den_seq ?_
      refine den_seq ?_
      refine den_region rfl ?_
      refine o_faddr field30_1 type3 (by decide) rfl rfl guard_none (look_tmp rfl) (fun _ => rfl) ?_
      refine o_oloadi 0 rfl type3 T_api_Event_foc1 rfl guard_none (look_tmp rfl) (fun _ => rfl) ?_
      refine o_eql rfl rfl guard_none (look_tmp rfl) (look_int rfl) (fun _ => rfl) (fun _ => rfl) ?_
      refine o_end ?_
      refine den_cond (look_tmp rfl) ?_ ?_
      · refine den_seq ?_
        refine den_region rfl ?_
        refine o_move rfl rfl guard_none (look_tmp rfl) (fun _ => rfl) ?_
        refine o_sadd rfl rfl (look_tmp rfl) (look_str (l := [117, 115, 101, 32]) rfl (by decide)) rfl rfl (fun z14 => ?_)
        refine o_move rfl rfl guard_none (look_tmp rfl) (fun _ => rfl) ?_
        refine o_sadd rfl rfl (look_tmp rfl) (look_tmp rfl) rfl rfl (fun z15 => ?_)
        refine o_sadd rfl rfl (look_tmp rfl) (look_str (l := [32]) rfl (by decide)) rfl rfl (fun z16 => ?_)
        refine o_faddr field30_5 type9 (by decide) rfl rfl guard_none (look_tmp rfl) (fun _ => rfl) ?_
        refine o_oloadi 0 rfl type9 T_api_Event_foc5 rfl guard_none (look_tmp rfl) (fun _ => rfl) ?_
        refine o_sadd rfl rfl (look_tmp rfl) (look_tmp rfl) rfl rfl (fun z17 => ?_)
        refine o_assign rfl rfl guard_none (look_tmp rfl) (fun _ => rfl) ?_
        refine o_assign rfl rfl guard_none (look_int rfl) (fun _ => rfl) ?_
        refine o_end ?_
        refine den_code_ret ?_
        refine dene_ret ?_
        exact dene_res (res2 rfl (rv_tmp rfl) (rv_tmp rfl))
      · refine den_skip ?_
        refine den_seq ?_
        refine den_seq ?_
        refine den_region rfl ?_
        refine o_faddr field30_1 type3 (by decide) rfl rfl guard_none (look_tmp rfl) (fun _ => rfl) ?_
        refine o_oloadi 0 rfl type3 T_api_Event_foc1 rfl guard_none (look_tmp rfl) (fun _ => rfl) ?_
        refine o_eql rfl rfl guard_none (look_tmp rfl) (look_int rfl) (fun _ => rfl) (fun _ => rfl) ?_
        refine o_end ?_
        refine den_cond (look_tmp rfl) ?_ ?_
        · refine den_seq ?_
          refine den_region rfl ?_
          refine o_move rfl rfl guard_none (look_tmp rfl) (fun _ => rfl) ?_
          refine o_sadd rfl rfl (look_tmp rfl) (look_str (l := [101, 110, 100, 32]) rfl (by decide)) rfl rfl (fun z18 => ?_)
          refine o_move rfl rfl guard_none (look_tmp rfl) (fun _ => rfl) ?_
          refine o_sadd rfl rfl (look_tmp rfl) (look_tmp rfl) rfl rfl (fun z19 => ?_)
          refine o_assign rfl rfl guard_none (look_tmp rfl) (fun _ => rfl) ?_
          refine o_assign rfl rfl guard_none (look_int rfl) (fun _ => rfl) ?_
          refine o_end ?_
          refine den_code_ret ?_
          refine dene_ret ?_
          exact dene_res (res2 rfl (rv_tmp rfl) (rv_tmp rfl))
        · refine den_skip ?_
          refine den_seq ?_
          refine den_seq ?_
          refine den_region rfl ?_
          refine o_faddr field30_1 type3 (by decide) rfl rfl guard_none (look_tmp rfl) (fun _ => rfl) ?_
          refine o_oloadi 0 rfl type3 T_api_Event_foc1 rfl guard_none (look_tmp rfl) (fun _ => rfl) ?_
          refine o_eql rfl rfl guard_none (look_tmp rfl) (look_int rfl) (fun _ => rfl) (fun _ => rfl) ?_
          refine o_end ?_
          refine den_cond (look_tmp rfl) ?_ ?_
          · refine den_seq ?_
            refine den_region rfl ?_
            refine o_move rfl rfl guard_none (look_tmp rfl) (fun _ => rfl) ?_
            refine o_sadd rfl rfl (look_tmp rfl) (look_str (l := [116, 105, 99, 107]) rfl (by decide)) rfl rfl (fun z20 => ?_)
            refine o_assign rfl rfl guard_none (look_tmp rfl) (fun _ => rfl) ?_
            refine o_assign rfl rfl guard_none (look_int rfl) (fun _ => rfl) ?_
            refine o_end ?_
            refine den_code_ret ?_
            refine dene_ret ?_
            exact dene_res (res2 rfl (rv_tmp rfl) (rv_tmp rfl))
          · refine den_skip ?_
            refine den_seq ?_
            refine den_region rfl ?_
            refine o_faddr field30_6 type28 (by decide) rfl rfl guard_none (look_tmp rfl) (fun _ => rfl) ?_
            refine o_oloadi 0 rfl type28 T_api_Event_foc6 rfl guard_none (look_tmp rfl) (fun _ => rfl) ?_
            refine o_call rfl rfl rfl callable14 (looks_cons (look_tmp rfl) (fun _ => rfl) (looks_nil)) (ref28_value_ok _) (fun z21 => ?_)
            refine o_move rfl rfl guard_none (look_tmp rfl) (fun _ => rfl) ?_
            refine o_fst rfl rfl guard_none (look_tmp rfl) (fun _ => rfl) ?_
            refine o_snd rfl rfl guard_none (look_tmp rfl) (fun _ => rfl) ?_
            refine o_assign rfl rfl guard_none (look_tmp rfl) (fun _ => rfl) ?_
            refine o_assign rfl rfl guard_none (look_tmp rfl) (fun _ => rfl) ?_
            refine o_end ?_
            refine den_seq ?_
            refine den_seq ?_
            refine den_region rfl ?_
            refine o_move rfl rfl guard_none (look_tmp rfl) (fun _ => rfl) ?_
            refine o_not rfl rfl guard_none (look_tmp rfl) (fun _ => rfl) ?_
            refine o_end ?_
            refine den_cond (look_tmp rfl) ?_ ?_
            · refine den_seq ?_
              refine den_region rfl ?_
              refine o_assign rfl rfl guard_none (look_str (l := []) rfl (by decide)) (fun _ => rfl) ?_
              refine o_assign rfl rfl guard_none (look_int rfl) (fun _ => rfl) ?_
              refine o_end ?_
              refine den_code_ret ?_
              refine dene_ret ?_
              exact dene_res (res2 rfl (rv_tmp rfl) (rv_tmp rfl))
            · refine den_skip ?_
              refine den_seq ?_
              refine den_region rfl ?_
              refine o_move rfl rfl guard_none (look_tmp rfl) (fun _ => rfl) ?_
              refine o_sadd rfl rfl (look_tmp rfl) (look_str (l := [115, 101, 116, 32]) rfl (by decide)) rfl rfl (fun z22 => ?_)
              refine o_faddr field30_3 type9 (by decide) rfl rfl guard_none (look_tmp rfl) (fun _ => rfl) ?_
              refine o_oloadi 0 rfl type9 T_api_Event_foc3 rfl guard_none (look_tmp rfl) (fun _ => rfl) ?_
              refine o_sadd rfl rfl (look_tmp rfl) (look_tmp rfl) rfl rfl (fun z23 => ?_)
              refine o_sadd rfl rfl (look_tmp rfl) (look_str (l := [32]) rfl (by decide)) rfl rfl (fun z24 => ?_)
              refine o_faddr field30_5 type9 (by decide) rfl rfl guard_none (look_tmp rfl) (fun _ => rfl) ?_
              refine o_oloadi 0 rfl type9 T_api_Event_foc5 rfl guard_none (look_tmp rfl) (fun _ => rfl) ?_
              refine o_sadd rfl rfl (look_tmp rfl) (look_tmp rfl) rfl rfl (fun z25 => ?_)
              refine o_sadd rfl rfl (look_tmp rfl) (look_str (l := [32]) rfl (by decide)) rfl rfl (fun z26 => ?_)
              refine o_move rfl rfl guard_none (look_tmp rfl) (fun _ => rfl) ?_
              refine o_sadd rfl rfl (look_tmp rfl) (look_tmp rfl) rfl rfl (fun z27 => ?_)
              refine o_assign rfl rfl guard_none (look_tmp rfl) (fun _ => rfl) ?_
              refine o_assign rfl rfl guard_none (look_int rfl) (fun _ => rfl) ?_
              refine o_end ?_
              refine den_code_ret ?_
              exact dene_res (res2 rfl (rv_tmp rfl) (rv_tmp rfl))

theorem strings_Builder_copyCheck_ok (blk : Nat) (x : Bytes) : FunOkI Tryz.prog 29 [⟨.addr, (blk, 0), true⟩] [.obj true 0 0 (bldr 5 49 blk) x] (strings_Builder_copyCheck x) (Rep.unit) (fun (α : Unit) (y : Bytes) => ()) (fun α y => [.obj true 0 0 (bldr 5 49 blk) y]) := by
  refine fun_okI Tryz.func29 rfl Tryz.ntmps29 rfl (all_cons rfl all_nil) (fun w0 ok0 M => ?_)
  refine den_seq ?_
  refine den_bopen (fun p v hp hs => ?_)
  rcases hp with rfl | rfl
  · refine den_region rfl ?_
    refine o_move rfl rfl guard_none (look_tmp rfl) (fun _ => rfl) ?_
    refine o_nilc rfl rfl guard_none (look_tmp rfl) (fun _ => rfl) ?_
    refine o_faddr fieldb49_0 typeaddr46 (by decide) rfl rfl guard_none (look_tmp rfl) (fun _ => rfl) ?_
    refine o_bload (S := Rep.nilp) (y := ()) 1 rfl rfl typenilp46 (fun _ _ => rfl) rfl guard_none (look_tmp rfl) (fun _ => rfl) ?_
    refine o_neql Tryz.underlying46 rfl rfl guard_none (look_tmp rfl) (fun _ => rfl) ?_
    refine o_end ?_
    refine den_condt (look_tmp rfl) ?_
    refine den_region rfl ?_
    refine o_move rfl rfl guard_none (look_tmp rfl) (fun _ => rfl) ?_
    refine o_move rfl rfl guard_none (look_tmp rfl) (fun _ => rfl) ?_
    refine o_toun 1 rfl Tryz.underlying46 Tryz.underlying79 (info_i info49) (by rw [(info_all info49).2.1]; decide) rfl guard_none (look_tmp rfl) (fun _ => rfl) ?_
    refine o_noesc Tryz.func44 (by kernel_rfl) (by kernel_rfl) (by kernel_rfl) (by kernel_rfl) rfl guard_none (look_tmp rfl) (fun _ => rfl) ?_
    refine o_fromun 1 rfl Tryz.underlying79 Tryz.underlying46 (info_i info49) (by kernel_rfl) rfl guard_none (look_tmp rfl) (fun _ => rfl) ?_
    refine o_nilc rfl rfl guard_none (look_tmp rfl) (fun _ => rfl) ?_
    refine o_faddr fieldb49_0 typeaddr46 (by decide) rfl rfl guard_none (look_tmp rfl) (fun _ => rfl) ?_
    refine o_weak (H' := [.obj true 0 0 (bldo 49 blk (.pointer none) v) (), .obj true 0 0 (tvec 5 v) x]) (sub_pick [1, 0] rfl rfl) ?_
    refine o_bstore (k := 0) (by omega) rfl (info_i info46) (info_all info46).2.1 (look_tmp rfl) rfl (look_addr1 (look_tmp rfl)) rfl rfl ?_
    refine o_end ?_
    refine den_weak (H' := [.obj true 0 0 (tvec 5 v) x, .obj true 0 0 (bldo 49 blk (.pointer (some ⟨blk, 0, none⟩)) v) ()]) (sub_pick [1, 0] rfl rfl) ?_
    refine den_weak (sub_bclose (.inr rfl)) ?_
    exact den_fallI () (res0 rfl) (fun _ _ _ k => ato_pick [0] rfl rfl k)
  · refine den_region rfl ?_
    refine o_move rfl rfl guard_none (look_tmp rfl) (fun _ => rfl) ?_
    refine o_nilc rfl rfl guard_none (look_tmp rfl) (fun _ => rfl) ?_
    refine o_faddr fieldb49_0 typeaddr46 (by decide) rfl rfl guard_none (look_tmp rfl) (fun _ => rfl) ?_
    refine o_bload (S := Rep.addr) (y := (blk, 0)) 1 rfl rfl typeaddr46 (fun _ _ => rfl) rfl guard_none (look_tmp rfl) (fun _ => rfl) ?_
    refine o_peql Tryz.underlying46 rfl rfl guard_none (look_tmp rfl) (fun _ => rfl) ?_
    refine o_end ?_
    refine den_condf (look_tmp rfl) ?_
    refine den_seq ?_
    refine den_region rfl ?_
    refine o_move rfl rfl guard_none (look_tmp rfl) (fun _ => rfl) ?_
    refine o_nilc rfl rfl guard_none (look_tmp rfl) (fun _ => rfl) ?_
    refine o_faddr fieldb49_0 typeaddr46 (by decide) rfl rfl guard_none (look_tmp rfl) (fun _ => rfl) ?_
    refine o_bload (S := Rep.addr) (y := (blk, 0)) 1 rfl rfl typeaddr46 (fun _ _ => rfl) rfl guard_none (look_tmp rfl) (fun _ => rfl) ?_
    refine o_move rfl rfl guard_none (look_tmp rfl) (fun _ => rfl) ?_
    refine o_pneqs Tryz.underlying46 (info_i info49) rfl guard_none (look_tmp rfl) (look_tmp rfl) (fun _ => rfl) (fun _ => rfl) ?_
    refine o_end ?_
    refine den_condf (look_tmp rfl) ?_
    refine den_skip ?_
    refine den_weak (sub_bclose (.inr rfl)) ?_
    exact den_fallI () (res0 rfl) (fun _ _ _ k => ato_pick [0] rfl rfl k)

theorem strings_Builder_WriteString_ok (blk0 : Nat) (b_0 : Bytes) (s_1 : Bytes) : FunOkI Tryz.prog 15 [⟨.addr, (blk0, 0), true⟩, ⟨Rep.str, s_1, true⟩] [.obj true 0 0 (bldr 5 49 blk0) b_0] (strings_Builder_WriteString b_0 s_1) (Rep.pair (Rep.int .i64) (Rep.errI)) (fun (α : Unit) (y : (Int × Bool × Bytes)) => (y.1, y.2.1)) (fun α y => [.obj true 0 0 (bldr 5 49 blk0) y.2.2]) := by
  refine fun_okI Tryz.func15 rfl Tryz.ntmps15 rfl (all_cons rfl (all_cons rfl all_nil)) (fun w0 ok0 M => ?_)
  refine den_seq ?_
  refine den_region rfl ?_
  refine o_assign rfl rfl guard_none (look_int rfl) (fun _ => rfl) ?_
  refine o_assign rfl rfl guard_none look_nilE (fun _ => rfl) ?_
  refine o_end ?_
  refine den_seq ?_
  refine den_region rfl ?_
  refine o_move rfl rfl guard_none (look_tmp rfl) (fun _ => rfl) ?_
  refine o_weak (H' := [.obj true 0 0 (bldr 5 49 blk0) b_0] ++ ([] ++ [])) (sub_pick [0] rfl rfl) ?_
  refine o_callU rfl rfl rfl rfl rfl callable29 (looks_cons (look_tmp rfl) (fun _ => rfl) (looks_nil)) .nil (strings_Builder_copyCheck_ok _ b_0) (fun _ _ => (wr_c wr_n)) (fun z2α z1 => ?_)
  refine o_weak (H' := [.obj true 0 0 (bldr 5 49 blk0) z1]) (sub_pick [0] rfl rfl) ?_
  refine o_end ?_
  refine den_seq ?_
  refine den_bopen (fun z3p z4v hp_z5 hs_z6 => ?_)
  refine den_region rfl ?_
  refine o_move rfl rfl guard_none (look_tmp rfl) (fun _ => rfl) ?_
  refine o_move rfl rfl guard_none (look_tmp rfl) (fun _ => rfl) ?_
  refine o_nilc rfl rfl guard_none (look_tmp rfl) (fun _ => rfl) ?_
  refine o_faddr fieldb49_1 typesl47 (by decide) rfl rfl guard_none (look_tmp rfl) (fun _ => rfl) ?_
  refine o_bload (S := Rep.sl) (y := z4v) 1 rfl rfl typesl47 (fun _ _ => ⟨rfl, hs_z6⟩) rfl guard_none (look_tmp rfl) (fun _ => rfl) ?_
  refine o_assl ?_
  refine o_move rfl rfl guard_none (look_tmp rfl) (fun _ => rfl) ?_
  refine o_tappend Tryz.underlying47 (info_i info5) (info_z info5) (info_all info5).2.1 rfl (info_all info5).2.2 rfl (look_tmp rfl) rfl (feeds_str Tryz.underlying9 (look_tmp rfl) rfl) (fun z8 z7 => ?_)
  refine o_nilc rfl rfl guard_none (look_tmp rfl) (fun _ => rfl) ?_
  refine o_faddr fieldb49_1 typesl47 (by decide) rfl rfl guard_none (look_tmp rfl) (fun _ => rfl) ?_
  refine o_weak (H' := [.obj true 0 0 (bldo 49 blk0 z3p z4v) (), .obj true 0 0 (tvec 5 z8) z7]) (sub_pick [1, 0] rfl rfl) ?_
  refine o_bput ⟨0, rfl⟩ (info_i info47) (info_all info47).2.1 (look_tmp rfl) rfl (look_tmp rfl) rfl ?_
  refine o_end ?_
  refine den_weak (H' := [.obj true 0 0 (tvec 5 z8) z7, .obj true 0 0 (bldo 49 blk0 z3p z8) ()]) (sub_pick [1, 0] rfl rfl) ?_
  refine den_weak (sub_bclose hp_z5) ?_
  refine den_seq ?_
  refine den_region rfl ?_
  refine o_move rfl rfl guard_none (look_tmp rfl) (fun _ => rfl) ?_
  refine o_slen Tryz.underlying9 rfl rfl guard_none (look_tmp rfl) (fun _ => rfl) ?_
  refine o_assign rfl rfl guard_none (look_tmp rfl) (fun _ => rfl) ?_
  refine o_assign rfl rfl guard_none look_nilE (fun _ => rfl) ?_
  refine o_end ?_
  refine den_code_ret ?_
  exact dene_resI () (res2 rfl (rv_tmp rfl) (rv_tmp rfl)) (fun _ _ _ k => ato_pick [0] rfl rfl k)

theorem strings_Builder_String_ok (blk0 : Nat) (b_0 : Bytes) : FunOkI Tryz.prog 16 [⟨.addr, (blk0, 0), true⟩] [.obj true 0 0 (bldr 5 49 blk0) b_0] (strings_Builder_String b_0) (Rep.str) (fun (α : Unit) (y : Bytes) => y) (fun α y => []) := by
  refine fun_okI Tryz.func16 rfl Tryz.ntmps16 rfl (all_cons rfl all_nil) (fun w0 ok0 M => ?_)
  refine den_seq ?_
  refine den_region rfl ?_
  refine o_assign rfl rfl guard_none (look_str (l := []) rfl (by decide)) (fun _ => rfl) ?_
  refine o_end ?_
  refine den_seq ?_
  refine den_bopen (fun z1p z2v hp_z3 hs_z4 => ?_)
  have hB : ∀ (z5α : Unit) (S : Nat → Bool) (b10 : Bool), S 10 = b10 → (([(cond (S 10) (.gone) (.obj true 0 0 (tvec 5 z2v) b_0)), .obj true 0 0 (bldo 49 blk0 z1p z2v) ()] : List Go.Eng.Item)) = ([(cond b10 (.gone) (.obj true 0 0 (tvec 5 z2v) b_0)), .obj true 0 0 (bldo 49 blk0 z1p z2v) ()] : List Go.Eng.Item) := fun z5α S b10 h10 => by subst h10; rfl
  refine den_drawA (A := Unit) (H' := fun z5α => [.gone, .obj true 0 0 (bldo 49 blk0 z1p z2v) ()]) (fun z5α => [(3, ⟨Rep.addr, (blk0, 0), true⟩), (4, ⟨Rep.addr, (blk0, 0), true⟩), (5, ⟨Rep.addr, (blk0, 0 + 1), true⟩), (6, ⟨Rep.val1, z2v, true⟩), (7, ⟨Rep.val1, (sdp z2v), true⟩), (8, ⟨Rep.addr, (blk0, 0), true⟩), (9, ⟨Rep.addr, (blk0, 0), true⟩), (10, ⟨Rep.addr, (blk0, 0 + 1), true⟩), (11, ⟨Rep.val1, z2v, true⟩), (12, ⟨Rep.int .i64, (b_0.length : Int), true⟩), (13, ⟨Rep.str, b_0, true⟩), (2, ⟨Rep.str, b_0, true⟩)]) (fun z5α S => [(cond (S 10) (.gone) (.obj true 0 0 (tvec 5 z2v) b_0)), .obj true 0 0 (bldo 49 blk0 z1p z2v) ()]) () mixed (fun _ => rfl) rfl rfl (fun z5α S hS => hB z5α S true (hS 10 (by decide))) ⟨?_, ?_, ?_, ?_, ?_, ?_, ?_, ?_, ?_, ?_, ?_, ?_, trivial⟩ (fun z5α => ?_)
  · intro z5α S hc hk hp
    have e10 : S 10 = false := (not_yet (j := 10) (q := 0) hc (not_yet (j := 4) (q := 0) hc (not_yet (j := 3) (q := 0) hc (not_yet (j := 2) (q := 0) hc (not_yet (j := 1) (q := 0) hc hk rfl rfl rfl rfl) rfl rfl rfl rfl) rfl rfl rfl rfl) rfl rfl rfl rfl) rfl rfl rfl rfl)
    refine eq_H (H' := [.obj true 0 0 (tvec 5 z2v) b_0, .obj true 0 0 (bldo 49 blk0 z1p z2v) ()]) (by first | exact hB z5α S false e10 | (have q := hB z5α S false e10; simp only [cond_true, cond_false] at q; exact q)) ?_
    refine o_move rfl rfl guard_none (look_o rfl rfl) (fun _ => rfl) ?_
    apply h_endA (α := z5α) ()
    · exact (.same (.same (.same (.same (.same (.same (.same (.same (.same (.same (.same (.same .nil))))))))))))
    · exact rfl
    · exact rfl
    · exact rfl
    · exact hB () (fun k => S k || Nat.beq k 0) false (or_f e10 rfl)
  · intro z5α S hc hk hp
    have e10 : S 10 = false := (not_yet (j := 10) (q := 0) hc (not_yet (j := 4) (q := 0) hc (not_yet (j := 3) (q := 0) hc (not_yet (j := 2) (q := 0) hc hk rfl rfl rfl rfl) rfl rfl rfl rfl) rfl rfl rfl rfl) rfl rfl rfl rfl)
    refine eq_H (H' := [.obj true 0 0 (tvec 5 z2v) b_0, .obj true 0 0 (bldo 49 blk0 z1p z2v) ()]) (by first | exact hB z5α S false e10 | (have q := hB z5α S false e10; simp only [cond_true, cond_false] at q; exact q)) ?_
    refine o_nilc rfl rfl guard_none (look_d rfl rfl (pr hp 0 rfl rfl)) (fun _ => rfl) ?_
    apply h_endA (α := z5α) ()
    · exact (.same (.same (.same (.same (.same (.same (.same (.same (.same (.same (.same (.same .nil))))))))))))
    · exact rfl
    · exact rfl
    · exact rfl
    · exact hB () (fun k => S k || Nat.beq k 1) false (or_f e10 rfl)
  · intro z5α S hc hk hp
    have e10 : S 10 = false := (not_yet (j := 10) (q := 0) hc (not_yet (j := 4) (q := 0) hc (not_yet (j := 3) (q := 0) hc hk rfl rfl rfl rfl) rfl rfl rfl rfl) rfl rfl rfl rfl)
    refine eq_H (H' := [.obj true 0 0 (tvec 5 z2v) b_0, .obj true 0 0 (bldo 49 blk0 z1p z2v) ()]) (by first | exact hB z5α S false e10 | (have q := hB z5α S false e10; simp only [cond_true, cond_false] at q; exact q)) ?_
    refine o_faddr fieldb49_1 typesl47 (by decide) rfl rfl guard_none (look_d rfl rfl (pr hp 0 rfl rfl)) (fun _ => rfl) ?_
    apply h_endA (α := z5α) ()
    · exact (.same (.same (.same (.same (.same (.same (.same (.same (.same (.same (.same (.same .nil))))))))))))
    · exact rfl
    · exact rfl
    · exact rfl
    · exact hB () (fun k => S k || Nat.beq k 2) false (or_f e10 rfl)
  · intro z5α S hc hk hp
    have e10 : S 10 = false := (not_yet (j := 10) (q := 0) hc (not_yet (j := 4) (q := 0) hc hk rfl rfl rfl rfl) rfl rfl rfl rfl)
    refine eq_H (H' := [.obj true 0 0 (tvec 5 z2v) b_0, .obj true 0 0 (bldo 49 blk0 z1p z2v) ()]) (by first | exact hB z5α S false e10 | (have q := hB z5α S false e10; simp only [cond_true, cond_false] at q; exact q)) ?_
    refine o_bload (S := Rep.sl) (y := z2v) 1 rfl rfl typesl47 (fun _ _ => ⟨rfl, hs_z4⟩) rfl guard_none (look_d rfl rfl (pr hp 0 rfl rfl)) (fun _ => rfl) ?_
    refine o_assl ?_
    apply h_endA (α := z5α) ()
    · exact (.same (.same (.same (.same (.same (.same (.same (.same (.same (.same (.same (.same .nil))))))))))))
    · exact rfl
    · exact rfl
    · exact rfl
    · exact hB () (fun k => S k || Nat.beq k 3) false (or_f e10 rfl)
  · intro z5α S hc hk hp
    have e10 : S 10 = false := (not_yet (j := 10) (q := 0) hc hk rfl rfl rfl rfl)
    refine eq_H (H' := [.obj true 0 0 (tvec 5 z2v) b_0, .obj true 0 0 (bldo 49 blk0 z1p z2v) ()]) (by first | exact hB z5α S false e10 | (have q := hB z5α S false e10; simp only [cond_true, cond_false] at q; exact q)) ?_
    refine o_tdata 0 rfl rfl guard_none (look_d rfl rfl (pr hp 0 rfl rfl)) (fun _ => rfl) ?_
    apply h_endA (α := z5α) ()
    · exact (.same (.same (.same (.same (.same (.same (.same (.same (.same (.same (.same (.same .nil))))))))))))
    · exact rfl
    · exact rfl
    · exact rfl
    · exact hB () (fun k => S k || Nat.beq k 4) false (or_f e10 rfl)
  · intro z5α S hc hk hp
    have e10 : S 10 = false := (not_yet (j := 10) (q := 1) hc (not_yet (j := 9) (q := 0) hc (not_yet (j := 8) (q := 0) hc (not_yet (j := 7) (q := 0) hc (not_yet (j := 6) (q := 0) hc hk rfl rfl rfl rfl) rfl rfl rfl rfl) rfl rfl rfl rfl) rfl rfl rfl rfl) rfl rfl rfl rfl)
    refine eq_H (H' := [.obj true 0 0 (tvec 5 z2v) b_0, .obj true 0 0 (bldo 49 blk0 z1p z2v) ()]) (by first | exact hB z5α S false e10 | (have q := hB z5α S false e10; simp only [cond_true, cond_false] at q; exact q)) ?_
    refine o_move rfl rfl guard_none (look_o rfl rfl) (fun _ => rfl) ?_
    apply h_endA (α := z5α) ()
    · exact (.same (.same (.same (.same (.same (.same (.same (.same (.same (.same (.same (.same .nil))))))))))))
    · exact rfl
    · exact rfl
    · exact rfl
    · exact hB () (fun k => S k || Nat.beq k 5) false (or_f e10 rfl)
  · intro z5α S hc hk hp
    have e10 : S 10 = false := (not_yet (j := 10) (q := 1) hc (not_yet (j := 9) (q := 0) hc (not_yet (j := 8) (q := 0) hc (not_yet (j := 7) (q := 0) hc hk rfl rfl rfl rfl) rfl rfl rfl rfl) rfl rfl rfl rfl) rfl rfl rfl rfl)
    refine eq_H (H' := [.obj true 0 0 (tvec 5 z2v) b_0, .obj true 0 0 (bldo 49 blk0 z1p z2v) ()]) (by first | exact hB z5α S false e10 | (have q := hB z5α S false e10; simp only [cond_true, cond_false] at q; exact q)) ?_
    refine o_nilc rfl rfl guard_none (look_d rfl rfl (pr hp 0 rfl rfl)) (fun _ => rfl) ?_
    apply h_endA (α := z5α) ()
    · exact (.same (.same (.same (.same (.same (.same (.same (.same (.same (.same (.same (.same .nil))))))))))))
    · exact rfl
    · exact rfl
    · exact rfl
    · exact hB () (fun k => S k || Nat.beq k 6) false (or_f e10 rfl)
  · intro z5α S hc hk hp
    have e10 : S 10 = false := (not_yet (j := 10) (q := 1) hc (not_yet (j := 9) (q := 0) hc (not_yet (j := 8) (q := 0) hc hk rfl rfl rfl rfl) rfl rfl rfl rfl) rfl rfl rfl rfl)
    refine eq_H (H' := [.obj true 0 0 (tvec 5 z2v) b_0, .obj true 0 0 (bldo 49 blk0 z1p z2v) ()]) (by first | exact hB z5α S false e10 | (have q := hB z5α S false e10; simp only [cond_true, cond_false] at q; exact q)) ?_
    refine o_faddr fieldb49_1 typesl47 (by decide) rfl rfl guard_none (look_d rfl rfl (pr hp 0 rfl rfl)) (fun _ => rfl) ?_
    apply h_endA (α := z5α) ()
    · exact (.same (.same (.same (.same (.same (.same (.same (.same (.same (.same (.same (.same .nil))))))))))))
    · exact rfl
    · exact rfl
    · exact rfl
    · exact hB () (fun k => S k || Nat.beq k 7) false (or_f e10 rfl)
  · intro z5α S hc hk hp
    have e10 : S 10 = false := (not_yet (j := 10) (q := 1) hc (not_yet (j := 9) (q := 0) hc hk rfl rfl rfl rfl) rfl rfl rfl rfl)
    refine eq_H (H' := [.obj true 0 0 (tvec 5 z2v) b_0, .obj true 0 0 (bldo 49 blk0 z1p z2v) ()]) (by first | exact hB z5α S false e10 | (have q := hB z5α S false e10; simp only [cond_true, cond_false] at q; exact q)) ?_
    refine o_bload (S := Rep.sl) (y := z2v) 1 rfl rfl typesl47 (fun _ _ => ⟨rfl, hs_z4⟩) rfl guard_none (look_d rfl rfl (pr hp 0 rfl rfl)) (fun _ => rfl) ?_
    refine o_assl ?_
    apply h_endA (α := z5α) ()
    · exact (.same (.same (.same (.same (.same (.same (.same (.same (.same (.same (.same (.same .nil))))))))))))
    · exact rfl
    · exact rfl
    · exact rfl
    · exact hB () (fun k => S k || Nat.beq k 8) false (or_f e10 rfl)
  · intro z5α S hc hk hp
    have e10 : S 10 = false := (not_yet (j := 10) (q := 1) hc hk rfl rfl rfl rfl)
    refine eq_H (H' := [.obj true 0 0 (tvec 5 z2v) b_0, .obj true 0 0 (bldo 49 blk0 z1p z2v) ()]) (by first | exact hB z5α S false e10 | (have q := hB z5α S false e10; simp only [cond_true, cond_false] at q; exact q)) ?_
    refine o_tlen 0 rfl Tryz.underlying47 rfl guard_none (look_d rfl rfl (pr hp 0 rfl rfl)) (fun _ => rfl) ?_
    apply h_endA (α := z5α) ()
    · exact (.same (.same (.same (.same (.same (.same (.same (.same (.same (.same (.same (.same .nil))))))))))))
    · exact rfl
    · exact rfl
    · exact rfl
    · exact hB () (fun k => S k || Nat.beq k 9) false (or_f e10 rfl)
  · intro z5α S hc hk hp
    refine eq_H (H' := [.obj true 0 0 (tvec 5 z2v) b_0, .obj true 0 0 (bldo 49 blk0 z1p z2v) ()]) (by first | exact hB z5α S false hk | (have q := hB z5α S false hk; simp only [cond_true, cond_false] at q; exact q)) ?_
    refine o_tstr Tryz.underlying66 cells5 rfl (look_d rfl rfl (pr hp 0 rfl rfl)) rfl (look_d rfl rfl (pr hp 1 rfl rfl)) rfl rfl ?_
    refine o_weak (H' := [.obj true 0 0 (bldo 49 blk0 z1p z2v) ()]) (sub_pick [1] rfl rfl) ?_
    refine o_weak sub_gone ?_
    apply h_endA (α := z5α) ()
    · exact (.same (.same (.same (.same (.same (.same (.same (.same (.same (.same (.same (.same .nil))))))))))))
    · exact rfl
    · exact rfl
    · exact rfl
    · exact hB () (fun k => S k || Nat.beq k 10) true (or_i rfl)
  · intro z5α S hc hk hp
    have e10 : S 10 = true := (pr hp 0 rfl rfl)
    refine eq_H (H' := [.gone, .obj true 0 0 (bldo 49 blk0 z1p z2v) ()]) (by first | exact hB z5α S true e10 | (have q := hB z5α S true e10; simp only [cond_true, cond_false] at q; exact q)) ?_
    refine o_assign rfl rfl guard_none (look_d rfl rfl (pr hp 0 rfl rfl)) (fun _ => rfl) ?_
    apply h_endA (α := z5α) ()
    · exact (.same (.same (.same (.same (.same (.same (.same (.same (.same (.same (.same (.same .nil))))))))))))
    · exact rfl
    · exact rfl
    · exact rfl
    · exact hB () (fun k => S k || Nat.beq k 11) true (or_t e10)
  refine den_weak (H' := [.obj true 0 0 (bldo 49 blk0 z1p z2v) ()]) (sub_pick [1] rfl rfl) ?_
  refine den_code_ret ?_
  exact dene_resI () (res1 rfl (rv_tmp rfl)) (fun _ _ _ k => ato_pick [] rfl rfl k)

theorem script_All_ok  (l_0 : (List T_api_Event)) : FunOk Tryz.prog 6 [⟨(T_api_Event_rep).slice, l_0, true⟩] (script_All l_0) (Rep.pair (Rep.str) (Rep.int .i64)) := by
  refine fun_ok Tryz.func6 rfl Tryz.ntmps6 rfl (all_cons rfl all_nil) (fun w0 ok0 => ?_)
  refine den_seq ?_
  refine den_region rfl ?_
  refine o_assign rfl rfl guard_none (look_str (l := []) rfl (by decide)) (fun _ => rfl) ?_
  refine o_assign rfl rfl guard_none (look_int rfl) (fun _ => rfl) ?_
  refine o_end ?_
  refine den_seq ?_
  refine den_region rfl ?_
  refine o_balloc (te := 5) (info_i info49) (info_z info49) rfl rfl (fun z1 => ?_)
  refine o_end ?_
  refine den_seq ?_
  refine den_seq ?_
  refine den_region rfl ?_
  refine o_move rfl rfl guard_none (look_tmp rfl) (fun _ => rfl) ?_
  refine o_llen Tryz.underlying22 rfl rfl guard_none (look_tmp rfl) (fun _ => rfl) ?_
  refine o_move rfl rfl guard_none (look_int rfl) (fun _ => rfl) ?_
  refine o_end ?_
  refine den_both (fun z2 => [(4, ⟨Rep.addr, (z1, 0), true⟩)]) (fun z2 => [.obj true 0 0 (bldr 5 49 z1) z2]) ?_ (fun z2 => ?_)
  · refine den_block ?_
    refine den_loop (script_All_L1b l_0) (fun z5 => [(11, ⟨Rep.int .i64, z5.1, true⟩), (4, ⟨Rep.addr, (z1, 0), true⟩), (9, ⟨(T_api_Event_rep).slice, l_0, true⟩), (10, ⟨Rep.int .i64, (l_0.length : Int), true⟩)]) (fun z5 => [.obj true 0 0 (bldr 5 49 z1) z5.2]) (0, ([] : Bytes)) (fun z5 => ?_) ((sub_env (sube_cons rfl (sube_cons rfl (sube_cons rfl (sube_cons rfl (sube_nil)))))))
    refine den_seq ?_
    refine den_region rfl ?_
    refine o_lss rfl rfl guard_none (look_tmp rfl) (look_tmp rfl) (fun _ => rfl) (fun _ => rfl) ?_
    refine o_end ?_
    refine den_seq ?_
    refine den_cond (look_tmp rfl) ?_ ?_
    · refine den_skip ?_
      refine den_seq ?_
      refine den_block ?_
      refine den_seq ?_
      refine den_region rfl ?_
      refine o_iaddr Tryz.underlying22 type30 rfl rfl (look_tmp rfl) (look_tmp rfl) rfl rfl (fun z6 => ?_)
      refine o_load type30 rfl rfl guard_none (look_tmp rfl) (fun _ => rfl) ?_
      refine o_alloc zero30 rfl rfl (fun z7 => ?_)
      refine o_ostore type30 foc_self guard_none (look_tmp rfl) (fun _ => rfl) (look_tmp rfl) (fun _ => rfl) ?_
      refine o_end ?_
      refine den_seq ?_
      refine den_region rfl ?_
      refine o_oloadi 0 rfl type30 foc_self rfl guard_none (look_tmp rfl) (fun _ => rfl) ?_
      refine o_call rfl rfl rfl callable11 (looks_cons (look_tmp rfl) (fun _ => rfl) (looks_nil)) (script_Line_ok _) (fun z8 => ?_)
      refine o_move rfl rfl guard_none (look_tmp rfl) (fun _ => rfl) ?_
      refine o_fst rfl rfl guard_none (look_tmp rfl) (fun _ => rfl) ?_
      refine o_snd rfl rfl guard_none (look_tmp rfl) (fun _ => rfl) ?_
      refine o_assign rfl rfl guard_none (look_tmp rfl) (fun _ => rfl) ?_
      refine o_assign rfl rfl guard_none (look_tmp rfl) (fun _ => rfl) ?_
      refine o_end ?_
      refine den_seq ?_
      refine den_seq ?_
      refine den_region rfl ?_
      refine o_move rfl rfl guard_none (look_tmp rfl) (fun _ => rfl) ?_
      refine o_neq rfl rfl guard_none (look_tmp rfl) (look_int rfl) (fun _ => rfl) (fun _ => rfl) ?_
      refine o_end ?_
      refine den_cond (look_tmp rfl) ?_ ?_
      · refine den_seq ?_
        refine den_region rfl ?_
        refine o_move rfl rfl guard_none (look_tmp rfl) (fun _ => rfl) ?_
        refine o_assign rfl rfl guard_none (look_str (l := []) rfl (by decide)) (fun _ => rfl) ?_
        refine o_assign rfl rfl guard_none (look_tmp rfl) (fun _ => rfl) ?_
        refine o_end ?_
        refine den_code_ret ?_
        refine dene_ret ?_
        refine dene_loop (by simp) ?_
        refine dene_ret ?_
        refine dene_both (by simp) ?_
        refine dene_ret ?_
        exact dene_res (res2 rfl (rv_tmp rfl) (rv_tmp rfl))
      · refine den_skip ?_
        refine den_region rfl ?_
        refine o_move rfl rfl guard_none (look_tmp rfl) (fun _ => rfl) ?_
        refine o_sadd rfl rfl (look_tmp rfl) (look_str (l := [10]) rfl (by decide)) rfl rfl (fun z9 => ?_)
        refine o_weak (H' := [.obj true 0 0 (bldr 5 49 z1) z5.2] ++ ([] ++ [.obj true z7 0 (.dat T_api_Event_rep) z6])) (sub_pick [1, 0] rfl rfl) ?_
        refine o_callU rfl rfl rfl rfl rfl callable15 (looks_cons (look_tmp rfl) (fun _ => rfl) (looks_cons (look_tmp rfl) (fun _ => rfl) (looks_nil))) .nil (strings_Builder_WriteString_ok _ z5.2 z9) (fun _ _ => (wr_c wr_n)) (fun z11α z10 => ?_)
        refine o_weak (H' := [.obj true 0 0 (bldr 5 49 z1) z10.2.2, .obj true z7 0 (.dat T_api_Event_rep) z6]) (sub_pick [0, 1] rfl rfl) ?_
        refine o_end ?_
        refine den_blkend ?_
        refine den_region rfl ?_
        refine o_add rfl rfl guard_none (look_tmp rfl) (look_int rfl) (fun _ => rfl) (fun _ => rfl) ?_
        refine o_move rfl rfl guard_none (look_tmp rfl) (fun _ => rfl) ?_
        refine o_end ?_
        refine den_next ((Sub.trans (sub_pick [0] rfl rfl) (sub_env (sube_cons rfl (sube_cons rfl (sube_cons rfl (sube_cons rfl (sube_nil))))))))
    · refine den_code_exit ?_
      refine dene_out rfl ?_
      refine dene_loop (by simp) ?_
      refine dene_to rfl ?_
      refine den_endl ((sub_env (sube_cons rfl (sube_nil))))
  refine den_seq ?_
  refine den_region rfl ?_
  refine o_weak (H' := [.obj true 0 0 (bldr 5 49 z1) z2] ++ ([] ++ [])) (sub_pick [0] rfl rfl) ?_
  refine o_callU rfl rfl rfl rfl rfl callable16 (looks_cons (look_tmp rfl) (fun _ => rfl) (looks_nil)) .nil (strings_Builder_String_ok _ z2) (fun _ _ => wr_n) (fun z4α z3 => ?_)
  refine o_weak (H' := []) (sub_pick [] rfl rfl) ?_
  refine o_assign rfl rfl guard_none (look_tmp rfl) (fun _ => rfl) ?_
  refine o_assign rfl rfl guard_none (look_int rfl) (fun _ => rfl) ?_
  refine o_end ?_
  refine den_code_ret ?_
  exact dene_res (res2 rfl (rv_tmp rfl) (rv_tmp rfl))

end Go.Proofs.YtielgloflidhnaaGreatDoor.M
