/- That the Go functions answer as the plain ones: written by gen2.py. -/
import Derived.Test.YtohhpphfflddnaaOks1
namespace Go.Proofs.Ytohhpphfflddnaa.M
open Go.Eng Go
set_option linter.unusedVariables false

theorem law21_DutyStays_ok  (a_0 : (List T_law21_Op)) (b_1 : (List T_law21_Op)) : FunOk Try.prog 4 [⟨(T_law21_Op_rep).slice, a_0, true⟩, ⟨(T_law21_Op_rep).slice, b_1, true⟩] (law21_DutyStays a_0 b_1) (Rep.bool) := by
  refine fun_ok Try.func4 rfl Try.ntmps4 rfl (all_cons rfl (all_cons rfl all_nil)) (fun w0 ok0 => ?_)
  refine den_seq ?_
  refine den_region rfl ?_
  refine o_assign rfl rfl guard_none look_bool (fun _ => rfl) ?_
  refine o_end ?_
  refine den_seq ?_
  refine den_seq ?_
  refine den_region rfl ?_
  refine o_call rfl rfl rfl callable6 (looks_nil) (law21_alive_ok) (fun z1 => ?_)
  refine o_not rfl rfl guard_none (look_tmp rfl) (fun _ => rfl) ?_
  refine o_end ?_
  refine den_cond (look_tmp rfl) ?_ ?_
  · refine den_seq ?_
    refine den_region rfl ?_
    refine o_assign rfl rfl guard_none look_bool (fun _ => rfl) ?_
    refine o_end ?_
    refine den_code_ret ?_
    refine dene_ret ?_
    exact dene_res (res1 rfl (rv_tmp rfl))
  · refine den_skip ?_
    refine den_seq ?_
    refine den_region rfl ?_
    refine o_move rfl rfl guard_none (look_tmp rfl) (fun _ => rfl) ?_
    refine o_call rfl rfl rfl callable8 (looks_cons (look_tmp rfl) (fun _ => rfl) (looks_nil)) (law21_few_ok _) (fun z2 => ?_)
    refine o_move rfl rfl guard_none (look_tmp rfl) (fun _ => rfl) ?_
    refine o_call rfl rfl rfl callable8 (looks_cons (look_tmp rfl) (fun _ => rfl) (looks_nil)) (law21_few_ok _) (fun z3 => ?_)
    refine o_assign rfl rfl guard_none (look_tmp rfl) (fun _ => rfl) ?_
    refine o_assign rfl rfl guard_none (look_tmp rfl) (fun _ => rfl) ?_
    refine o_end ?_
    refine den_seq ?_
    refine den_region rfl ?_
    refine o_weak (sub_nilvec (R := T_duty_Instance_rep) rfl) ?_
    refine o_weak (sub_nilvec (R := Rep.int .i64) rfl) ?_
    refine o_build (R := T_duty_Table_repo0 (Value.slice none 0 0) (Value.slice none 0 0)) (f := T_duty_Table_tupo) (y := (⟨[], []⟩ : T_duty_Table)) shape30 rfl rfl rfl rfl guard_none (bld_zero (z_isv rfl) (bld_zero (z_isv rfl) (bld_nil))) ?_
    refine o_box rfl rfl (look_tmp rfl) rfl (fun z4 => ?_)
    refine o_assign rfl rfl guard_none (look_tmp rfl) (fun _ => rfl) ?_
    refine o_end ?_
    refine den_seq ?_
    refine den_region rfl ?_
    refine o_move rfl rfl guard_none (look_tmp rfl) (fun _ => rfl) ?_
    refine o_move rfl rfl guard_none (look_tmp rfl) (fun _ => rfl) ?_
    refine o_weak (H' := [.obj true z4 0 (.dat (T_duty_Table_repo (Value.slice none 0 0) (Value.slice none 0 0))) (⟨[], []⟩ : T_duty_Table), .vec (Value.slice none 0 0) (Rep.int .i64) ([] : List Int), .vec (Value.slice none 0 0) (T_duty_Instance_rep) ([] : List T_duty_Instance)]) (sub_pick [0, 1, 2] rfl rfl) ?_
    refine o_weak (sub_redat ({ ({ (⟨[], []⟩ : T_duty_Table) with all := ([] : List T_duty_Instance) }) with wait := ([] : List Int) }) (fun _ _ _ h => h)) ?_
    refine o_weak (H' := [.vec (Value.slice none 0 0) (T_duty_Instance_rep) ([] : List T_duty_Instance), .vec (Value.slice none 0 0) (Rep.int .i64) ([] : List Int), .obj true z4 0 (.dat (T_duty_Table_repo (Value.slice none 0 0) (Value.slice none 0 0))) ({ ({ (⟨[], []⟩ : T_duty_Table) with all := ([] : List T_duty_Instance) }) with wait := ([] : List Int) })] ++ ([] ++ [])) (sub_pick [2, 1, 0] rfl rfl) ?_
    refine o_callU rfl rfl rfl rfl rfl callable7 (looks_cons (look_tmp rfl) (fun _ => rfl) (looks_cons (look_nild (R := T_duty_Instance_rep)) (fun _ => rfl) (looks_cons (look_tmp rfl) (fun _ => rfl) (looks_nil)))) .nil (law21_run_ok _ _ _ _ ({ ({ (⟨[], []⟩ : T_duty_Table) with all := ([] : List T_duty_Instance) }) with wait := ([] : List Int) }) ([] : (List T_duty_Instance)) z2) (fun _ _ => (wr_v (wr_v (wr_c wr_n)))) (fun z6α z5 => ?_)
    obtain ⟨z7, z8⟩ := z6α
    refine o_weak (H' := [.vec z7 (T_duty_Instance_rep) z5.2.2.all, .vec z8 (Rep.int .i64) z5.2.2.wait, .obj true z4 0 (.dat (T_duty_Table_repo z7 z8)) z5.2.2]) (sub_pick [0, 1, 2] rfl rfl) ?_
    refine o_move rfl rfl guard_none (look_tmp rfl) (fun _ => rfl) ?_
    refine o_fst rfl rfl guard_none (look_tmp rfl) (fun _ => rfl) ?_
    refine o_snd rfl rfl guard_none (look_tmp rfl) (fun _ => rfl) ?_
    refine o_assign rfl rfl guard_none (look_tmp rfl) (fun _ => rfl) ?_
    refine o_assign rfl rfl guard_none (look_tmp rfl) (fun _ => rfl) ?_
    refine o_end ?_
    refine den_seq ?_
    refine den_region rfl ?_
    refine o_move rfl rfl guard_none (look_tmp rfl) (fun _ => rfl) ?_
    refine o_weak (H' := [] ++ ([.vec z7 (T_duty_Instance_rep) z5.2.2.all, .vec z8 (Rep.int .i64) z5.2.2.wait, .obj true z4 0 (.dat (T_duty_Table_repo z7 z8)) z5.2.2] ++ [])) (sub_pick [0, 1, 2] rfl rfl) ?_
    refine o_callU rfl rfl rfl rfl rfl callable9 (looks_cons (look_tmp rfl) (fun _ => rfl) (looks_nil)) (.vec (.vec (.cons .nil))) (duty_Table_All_ok _ _ _ _ z5.2.2) (fun _ _ => (wr_v wr_n)) (fun z10α z9 => ?_)
    refine o_weak (H' := [.vec z10α (T_duty_Instance_rep) z9, .vec z7 (T_duty_Instance_rep) z5.2.2.all, .vec z8 (Rep.int .i64) z5.2.2.wait, .obj true z4 0 (.dat (T_duty_Table_repo z7 z8)) z5.2.2]) (sub_pick [0, 1, 2, 3] rfl rfl) ?_
    refine o_assign rfl rfl guard_none (look_tmp rfl) (fun _ => rfl) ?_
    refine o_end ?_
    refine den_seq ?_
    refine den_region rfl ?_
    refine o_move rfl rfl guard_none (look_tmp rfl) (fun _ => rfl) ?_
    refine o_move rfl rfl guard_none (look_tmp rfl) (fun _ => rfl) ?_
    refine o_weak (H' := [] ++ ([.vec z7 (T_duty_Instance_rep) z5.2.2.all, .vec z8 (Rep.int .i64) z5.2.2.wait, .obj true z4 0 (.dat (T_duty_Table_repo z7 z8)) z5.2.2] ++ [.vec z10α (T_duty_Instance_rep) z9])) (sub_pick [1, 2, 3, 0] rfl rfl) ?_
    refine o_callU rfl rfl rfl rfl rfl callable9 (looks_cons (look_tmp rfl) (fun _ => rfl) (looks_nil)) (.vec (.vec (.cons .nil))) (duty_Table_All_ok _ _ _ _ z5.2.2) (fun _ _ => (wr_v wr_n)) (fun z13α z12 => ?_)
    refine o_weak (H' := [.vec z13α (T_duty_Instance_rep) z12, .vec z7 (T_duty_Instance_rep) z5.2.2.all, .vec z8 (Rep.int .i64) z5.2.2.wait, .obj true z4 0 (.dat (T_duty_Table_repo z7 z8)) z5.2.2, .vec z10α (T_duty_Instance_rep) z9]) (sub_pick [0, 1, 2, 3, 4] rfl rfl) ?_
    refine o_move rfl rfl guard_none (look_tmp rfl) (fun _ => rfl) ?_
    refine o_weak (sub_freeze (s := 34) rfl) ?_
    refine o_weak (H' := [.vec z7 (T_duty_Instance_rep) z5.2.2.all, .vec z8 (Rep.int .i64) z5.2.2.wait, .obj true z4 0 (.dat (T_duty_Table_repo z7 z8)) z5.2.2] ++ ([] ++ [.vec z10α (T_duty_Instance_rep) z9])) (sub_pick [0, 1, 2, 3] rfl rfl) ?_
    refine o_callU rfl rfl rfl rfl rfl callable7 (looks_cons (look_tmp rfl) (fun _ => rfl) (looks_cons (look_tmp rfl) (fun _ => rfl) (looks_cons (look_tmp rfl) (fun _ => rfl) (looks_nil)))) .nil (law21_run_ok _ _ _ _ z5.2.2 z12 z3) (fun _ _ => (wr_v (wr_v (wr_c wr_n)))) (fun z16α z15 => ?_)
    obtain ⟨z17, z18⟩ := z16α
    refine o_weak (H' := [.vec z17 (T_duty_Instance_rep) z15.2.2.all, .vec z18 (Rep.int .i64) z15.2.2.wait, .obj true z4 0 (.dat (T_duty_Table_repo z17 z18)) z15.2.2, .vec z10α (T_duty_Instance_rep) z9]) (sub_pick [0, 1, 2, 3] rfl rfl) ?_
    refine o_move rfl rfl guard_none (look_tmp rfl) (fun _ => rfl) ?_
    refine o_fst rfl rfl guard_none (look_tmp rfl) (fun _ => rfl) ?_
    refine o_snd rfl rfl guard_none (look_tmp rfl) (fun _ => rfl) ?_
    refine o_assign rfl rfl guard_none (look_tmp rfl) (fun _ => rfl) ?_
    refine o_assign rfl rfl guard_none (look_tmp rfl) (fun _ => rfl) ?_
    refine o_end ?_
    refine den_seq ?_
    refine den_region rfl ?_
    refine o_move rfl rfl guard_none (look_tmp rfl) (fun _ => rfl) ?_
    refine o_weak (H' := [] ++ ([.vec z17 (T_duty_Instance_rep) z15.2.2.all, .vec z18 (Rep.int .i64) z15.2.2.wait, .obj true z4 0 (.dat (T_duty_Table_repo z17 z18)) z15.2.2] ++ [.vec z10α (T_duty_Instance_rep) z9])) (sub_pick [0, 1, 2, 3] rfl rfl) ?_
    refine o_callU rfl rfl rfl rfl rfl callable9 (looks_cons (look_tmp rfl) (fun _ => rfl) (looks_nil)) (.vec (.vec (.cons .nil))) (duty_Table_All_ok _ _ _ _ z15.2.2) (fun _ _ => (wr_v wr_n)) (fun z20α z19 => ?_)
    refine o_weak (H' := [.vec z20α (T_duty_Instance_rep) z19, .vec z17 (T_duty_Instance_rep) z15.2.2.all, .vec z18 (Rep.int .i64) z15.2.2.wait, .obj true z4 0 (.dat (T_duty_Table_repo z17 z18)) z15.2.2, .vec z10α (T_duty_Instance_rep) z9]) (sub_pick [0, 1, 2, 3, 4] rfl rfl) ?_
    refine o_assign rfl rfl guard_none (look_tmp rfl) (fun _ => rfl) ?_
    refine o_end ?_
    refine den_seq ?_
    refine den_seq ?_
    refine den_region rfl ?_
    refine o_move rfl rfl guard_none (look_tmp rfl) (fun _ => rfl) ?_
    refine o_not rfl rfl guard_none (look_tmp rfl) (fun _ => rfl) ?_
    refine o_move rfl rfl guard_none (look_tmp rfl) (fun _ => rfl) ?_
    refine o_move rfl rfl (guard_some rfl rfl rfl) (look_tmp rfl) (fun _ => rfl) ?_
    refine o_not rfl rfl (guard_some rfl rfl rfl) (look_tmp rfl) (fun h => h) ?_
    refine o_pick rfl rfl guard_none (look_tmp rfl) look_bool (look_tmp rfl) (fun _ => rfl) (fun _ _ => rfl) (fun h1 h2 => pick_f ((fun _ => rfl) h1) h2) ?_
    refine o_move rfl rfl guard_none (look_tmp rfl) (fun _ => rfl) ?_
    refine o_move rfl rfl (guard_some rfl rfl rfl) (look_tmp rfl) (fun _ => rfl) ?_
    refine o_vlen 0 (.inl rfl) Try.underlying24 rfl (guard_some rfl rfl rfl) (look_tmp rfl) (fun h => h) ?_
    refine o_move rfl rfl (guard_some rfl rfl rfl) (look_tmp rfl) (fun _ => rfl) ?_
    refine o_vlen 4 (.inl rfl) Try.underlying24 rfl (guard_some rfl rfl rfl) (look_tmp rfl) (fun h => h) ?_
    refine o_lss rfl rfl (guard_some rfl rfl rfl) (look_tmp rfl) (look_tmp rfl) (fun h => h) (fun h => h) ?_
    refine o_pick rfl rfl guard_none (look_tmp rfl) look_bool (look_tmp rfl) (fun _ => rfl) (fun _ _ => rfl) (fun h1 h2 => pick_f ((fun _ => rfl) h1) h2) ?_
    refine o_end ?_
    refine den_cond (look_tmp rfl) ?_ ?_
    · refine den_seq ?_
      refine den_region rfl ?_
      refine o_assign rfl rfl guard_none look_bool (fun _ => rfl) ?_
      refine o_end ?_
      refine den_code_ret ?_
      refine dene_ret ?_
      exact dene_res (res1 rfl (rv_tmp rfl))
    · refine den_skip ?_
      refine den_seq ?_
      refine den_seq ?_
      refine den_region rfl ?_
      refine o_assign rfl rfl guard_none (look_int rfl) (fun _ => rfl) ?_
      refine o_end ?_
      refine den_both (fun z22 => []) (fun z22 => []) ?_ (fun z22 => ?_)
      · refine den_block ?_
        refine den_loop (law21_DutyStays_L1b z9 z19) (fun z23 => [(12, ⟨Rep.int .i64, z23, true⟩), (8, ⟨Rep.val1, z10α, true⟩), (11, ⟨Rep.val1, z20α, true⟩)]) (fun z23 => [.vec z20α (T_duty_Instance_rep) z19, .vec z10α (T_duty_Instance_rep) z9]) 0 (fun z23 => ?_) ((Sub.trans (sub_pick [0, 4] rfl rfl) (sub_env (sube_cons rfl (sube_cons rfl (sube_cons rfl (sube_nil)))))))
        refine den_seq ?_
        refine den_seq ?_
        refine den_region rfl ?_
        refine o_move rfl rfl guard_none (look_tmp rfl) (fun _ => rfl) ?_
        refine o_move rfl rfl guard_none (look_tmp rfl) (fun _ => rfl) ?_
        refine o_vlen 1 (.inl rfl) Try.underlying24 rfl guard_none (look_tmp rfl) (fun _ => rfl) ?_
        refine o_lss rfl rfl guard_none (look_tmp rfl) (look_tmp rfl) (fun _ => rfl) (fun _ => rfl) ?_
        refine o_end ?_
        refine den_cond (look_tmp rfl) ?_ ?_
        · refine den_skip ?_
          refine den_seq ?_
          refine den_block ?_
          refine den_seq ?_
          refine den_open (fun z25 h_z25 => ?_)
          refine den_open (fun z26 h_z26 => ?_)
          have hB : ∀ (z24α : (Nat × Nat)) (S : Nat → Bool) (b8 b9 b10 b11 : Bool), S 8 = b8 → S 9 = b9 → S 10 = b10 → S 11 = b11 → (([.vec z20α (T_duty_Instance_rep) z19, .vec z10α (T_duty_Instance_rep) z9, (cond (S 10) (.obj true (z24α.1) 0 (.dat T_duty_Instance_rep) (z9.getD z25 T_duty_Instance_zero)) ((cond (S 8) (.obj true (z24α.1) 0 (.dat T_duty_Instance_rep) T_duty_Instance_zero) (.gone)))), (cond (S 11) (.obj true (z24α.2) 0 (.dat T_duty_Instance_rep) (z19.getD z26 T_duty_Instance_zero)) ((cond (S 9) (.obj true (z24α.2) 0 (.dat T_duty_Instance_rep) T_duty_Instance_zero) (.gone))))] : List Go.Eng.Item)) = ([.vec z20α (T_duty_Instance_rep) z19, .vec z10α (T_duty_Instance_rep) z9, (cond b10 (.obj true (z24α.1) 0 (.dat T_duty_Instance_rep) (z9.getD z25 T_duty_Instance_zero)) ((cond b8 (.obj true (z24α.1) 0 (.dat T_duty_Instance_rep) T_duty_Instance_zero) (.gone)))), (cond b11 (.obj true (z24α.2) 0 (.dat T_duty_Instance_rep) (z19.getD z26 T_duty_Instance_zero)) ((cond b9 (.obj true (z24α.2) 0 (.dat T_duty_Instance_rep) T_duty_Instance_zero) (.gone))))] : List Go.Eng.Item) := fun z24α S b8 b9 b10 b11 h8 h9 h10 h11 => by subst h8; subst h9; subst h10; subst h11; rfl
          refine den_weak sub_gone ?_
          refine den_weak sub_gone ?_
          refine den_weak (sub_pick (H' := [.vec z20α (T_duty_Instance_rep) z19, .vec z10α (T_duty_Instance_rep) z9, .gone, .gone]) [2, 3, 0, 1] rfl rfl) ?_
          refine den_drawA (A := (Nat × Nat)) (H' := fun z24α => [.vec z20α (T_duty_Instance_rep) z19, .vec z10α (T_duty_Instance_rep) z9, .obj true (z24α.1) 0 (.dat T_duty_Instance_rep) (z9.getD z25 T_duty_Instance_zero), .obj true (z24α.2) 0 (.dat T_duty_Instance_rep) (z19.getD z26 T_duty_Instance_zero)]) (fun z24α => [(60, ⟨Rep.val1, z10α, true⟩), (61, ⟨Rep.int .i64, z23, true⟩), (62, ⟨Rep.val1, (vptr z10α (T_duty_Instance_rep).size z25), true⟩), (63, ⟨T_duty_Instance_rep, (z9.getD z25 T_duty_Instance_zero), true⟩), (64, ⟨Rep.val1, z20α, true⟩), (65, ⟨Rep.int .i64, z23, true⟩), (66, ⟨Rep.val1, (vptr z20α (T_duty_Instance_rep).size z26), true⟩), (67, ⟨T_duty_Instance_rep, (z19.getD z26 T_duty_Instance_zero), true⟩), (13, ⟨Rep.addr, (z24α.1, 0), true⟩), (14, ⟨Rep.addr, (z24α.2, 0), true⟩), (92, ⟨.any, (), false⟩), (93, ⟨.any, (), false⟩)]) (fun z24α S => [.vec z20α (T_duty_Instance_rep) z19, .vec z10α (T_duty_Instance_rep) z9, (cond (S 10) (.obj true (z24α.1) 0 (.dat T_duty_Instance_rep) (z9.getD z25 T_duty_Instance_zero)) ((cond (S 8) (.obj true (z24α.1) 0 (.dat T_duty_Instance_rep) T_duty_Instance_zero) (.gone)))), (cond (S 11) (.obj true (z24α.2) 0 (.dat T_duty_Instance_rep) (z19.getD z26 T_duty_Instance_zero)) ((cond (S 9) (.obj true (z24α.2) 0 (.dat T_duty_Instance_rep) T_duty_Instance_zero) (.gone))))]) (0, 0) mixed (fun _ => rfl) rfl rfl (fun z24α S hS => hB z24α S true true true true (hS 8 (by decide)) (hS 9 (by decide)) (hS 10 (by decide)) (hS 11 (by decide))) ⟨?_, ?_, ?_, ?_, ?_, ?_, ?_, ?_, ?_, ?_, ?_, ?_, trivial⟩ (fun z24α => ?_)
          · intro z24α S hc hk hp
            have e10 : S 10 = false := (not_yet (j := 10) (q := 2) hc hk rfl rfl rfl rfl)
            have e11 : S 11 = false := (not_yet (j := 11) (q := 3) hc hk rfl rfl rfl rfl)
            refine eq_H (H' := [.vec z20α (T_duty_Instance_rep) z19, .vec z10α (T_duty_Instance_rep) z9, (cond (S 8) (.obj true (z24α.1) 0 (.dat T_duty_Instance_rep) T_duty_Instance_zero) (.gone)), (cond (S 9) (.obj true (z24α.2) 0 (.dat T_duty_Instance_rep) T_duty_Instance_zero) (.gone))]) (by first | exact hB z24α S (S 8) (S 9) false false rfl rfl e10 e11 | (have q := hB z24α S (S 8) (S 9) false false rfl rfl e10 e11; simp only [cond_true, cond_false] at q; exact q)) ?_
            refine o_move rfl rfl guard_none (look_o rfl rfl) (fun _ => rfl) ?_
            apply h_endA (α := z24α) (z24α.1, z24α.2)
            · exact (.same (.same (.same (.same (.same (.same (.same (.same (.same (.same (.same (.same .nil))))))))))))
            · exact rfl
            · exact rfl
            · exact rfl
            · exact hB (z24α.1, z24α.2) (fun k => S k || Nat.beq k 0) (S 8) (S 9) false false (or_ne rfl) (or_ne rfl) (or_f e10 rfl) (or_f e11 rfl)
          · intro z24α S hc hk hp
            have e10 : S 10 = false := (not_yet (j := 10) (q := 3) hc hk rfl rfl rfl rfl)
            have e11 : S 11 = false := (not_yet (j := 11) (q := 4) hc hk rfl rfl rfl rfl)
            refine eq_H (H' := [.vec z20α (T_duty_Instance_rep) z19, .vec z10α (T_duty_Instance_rep) z9, (cond (S 8) (.obj true (z24α.1) 0 (.dat T_duty_Instance_rep) T_duty_Instance_zero) (.gone)), (cond (S 9) (.obj true (z24α.2) 0 (.dat T_duty_Instance_rep) T_duty_Instance_zero) (.gone))]) (by first | exact hB z24α S (S 8) (S 9) false false rfl rfl e10 e11 | (have q := hB z24α S (S 8) (S 9) false false rfl rfl e10 e11; simp only [cond_true, cond_false] at q; exact q)) ?_
            refine o_move rfl rfl guard_none (look_o rfl rfl) (fun _ => rfl) ?_
            apply h_endA (α := z24α) (z24α.1, z24α.2)
            · exact (.same (.same (.same (.same (.same (.same (.same (.same (.same (.same (.same (.same .nil))))))))))))
            · exact rfl
            · exact rfl
            · exact rfl
            · exact hB (z24α.1, z24α.2) (fun k => S k || Nat.beq k 1) (S 8) (S 9) false false (or_ne rfl) (or_ne rfl) (or_f e10 rfl) (or_f e11 rfl)
          · intro z24α S hc hk hp
            have e10 : S 10 = false := (not_yet (j := 10) (q := 4) hc hk rfl rfl rfl rfl)
            have e11 : S 11 = false := (not_yet (j := 11) (q := 5) hc hk rfl rfl rfl rfl)
            refine eq_H (H' := [.vec z20α (T_duty_Instance_rep) z19, .vec z10α (T_duty_Instance_rep) z9, (cond (S 8) (.obj true (z24α.1) 0 (.dat T_duty_Instance_rep) T_duty_Instance_zero) (.gone)), (cond (S 9) (.obj true (z24α.2) 0 (.dat T_duty_Instance_rep) T_duty_Instance_zero) (.gone))]) (by first | exact hB z24α S (S 8) (S 9) false false rfl rfl e10 e11 | (have q := hB z24α S (S 8) (S 9) false false rfl rfl e10 e11; simp only [cond_true, cond_false] at q; exact q)) ?_
            refine o_from (bind_eqO h_z25) ?_
            refine o_vaddr 1 (.inl rfl) Try.underlying24 type35 rfl (look_d rfl rfl (pr hp 0 rfl rfl)) (look_d rfl rfl (pr hp 1 rfl rfl)) rfl rfl (o_eqO ?_)
            apply h_endA (α := z24α) (z24α.1, z24α.2)
            · exact (.same (.same (.same (.same (.same (.same (.same (.same (.same (.same (.same (.same .nil))))))))))))
            · exact rfl
            · exact rfl
            · exact rfl
            · exact hB (z24α.1, z24α.2) (fun k => S k || Nat.beq k 2) (S 8) (S 9) false false (or_ne rfl) (or_ne rfl) (or_f e10 rfl) (or_f e11 rfl)
          · intro z24α S hc hk hp
            have e10 : S 10 = false := (not_yet (j := 10) (q := 1) hc hk rfl rfl rfl rfl)
            have e11 : S 11 = false := (not_yet (j := 11) (q := 6) hc hk rfl rfl rfl rfl)
            refine eq_H (H' := [.vec z20α (T_duty_Instance_rep) z19, .vec z10α (T_duty_Instance_rep) z9, (cond (S 8) (.obj true (z24α.1) 0 (.dat T_duty_Instance_rep) T_duty_Instance_zero) (.gone)), (cond (S 9) (.obj true (z24α.2) 0 (.dat T_duty_Instance_rep) T_duty_Instance_zero) (.gone))]) (by first | exact hB z24α S (S 8) (S 9) false false rfl rfl e10 e11 | (have q := hB z24α S (S 8) (S 9) false false rfl rfl e10 e11; simp only [cond_true, cond_false] at q; exact q)) ?_
            refine o_vload (j := z25) (u := (z9.getD z25 T_duty_Instance_zero)) 1 (.inl rfl) type35 rfl guard_none (fun _ => at_get rfl h_z25) (look_d rfl rfl (pr hp 0 rfl rfl)) (fun _ => rfl) ?_
            apply h_endA (α := z24α) (z24α.1, z24α.2)
            · exact (.same (.same (.same (.same (.same (.same (.same (.same (.same (.same (.same (.same .nil))))))))))))
            · exact rfl
            · exact rfl
            · exact rfl
            · exact hB (z24α.1, z24α.2) (fun k => S k || Nat.beq k 3) (S 8) (S 9) false false (or_ne rfl) (or_ne rfl) (or_f e10 rfl) (or_f e11 rfl)
          · intro z24α S hc hk hp
            have e11 : S 11 = false := (not_yet (j := 11) (q := 7) hc hk rfl rfl rfl rfl)
            refine eq_H (H' := [.vec z20α (T_duty_Instance_rep) z19, .vec z10α (T_duty_Instance_rep) z9, (cond (S 10) (.obj true (z24α.1) 0 (.dat T_duty_Instance_rep) (z9.getD z25 T_duty_Instance_zero)) ((cond (S 8) (.obj true (z24α.1) 0 (.dat T_duty_Instance_rep) T_duty_Instance_zero) (.gone)))), (cond (S 9) (.obj true (z24α.2) 0 (.dat T_duty_Instance_rep) T_duty_Instance_zero) (.gone))]) (by first | exact hB z24α S (S 8) (S 9) (S 10) false rfl rfl rfl e11 | (have q := hB z24α S (S 8) (S 9) (S 10) false rfl rfl rfl e11; simp only [cond_true, cond_false] at q; exact q)) ?_
            refine o_move rfl rfl guard_none (look_o rfl rfl) (fun _ => rfl) ?_
            apply h_endA (α := z24α) (z24α.1, z24α.2)
            · exact (.same (.same (.same (.same (.same (.same (.same (.same (.same (.same (.same (.same .nil))))))))))))
            · exact rfl
            · exact rfl
            · exact rfl
            · exact hB (z24α.1, z24α.2) (fun k => S k || Nat.beq k 4) (S 8) (S 9) (S 10) false (or_ne rfl) (or_ne rfl) (or_ne rfl) (or_f e11 rfl)
          · intro z24α S hc hk hp
            have e11 : S 11 = false := (not_yet (j := 11) (q := 8) hc hk rfl rfl rfl rfl)
            refine eq_H (H' := [.vec z20α (T_duty_Instance_rep) z19, .vec z10α (T_duty_Instance_rep) z9, (cond (S 10) (.obj true (z24α.1) 0 (.dat T_duty_Instance_rep) (z9.getD z25 T_duty_Instance_zero)) ((cond (S 8) (.obj true (z24α.1) 0 (.dat T_duty_Instance_rep) T_duty_Instance_zero) (.gone)))), (cond (S 9) (.obj true (z24α.2) 0 (.dat T_duty_Instance_rep) T_duty_Instance_zero) (.gone))]) (by first | exact hB z24α S (S 8) (S 9) (S 10) false rfl rfl rfl e11 | (have q := hB z24α S (S 8) (S 9) (S 10) false rfl rfl rfl e11; simp only [cond_true, cond_false] at q; exact q)) ?_
            refine o_move rfl rfl guard_none (look_o rfl rfl) (fun _ => rfl) ?_
            apply h_endA (α := z24α) (z24α.1, z24α.2)
            · exact (.same (.same (.same (.same (.same (.same (.same (.same (.same (.same (.same (.same .nil))))))))))))
            · exact rfl
            · exact rfl
            · exact rfl
            · exact hB (z24α.1, z24α.2) (fun k => S k || Nat.beq k 5) (S 8) (S 9) (S 10) false (or_ne rfl) (or_ne rfl) (or_ne rfl) (or_f e11 rfl)
          · intro z24α S hc hk hp
            have e11 : S 11 = false := (not_yet (j := 11) (q := 9) hc hk rfl rfl rfl rfl)
            refine eq_H (H' := [.vec z20α (T_duty_Instance_rep) z19, .vec z10α (T_duty_Instance_rep) z9, (cond (S 10) (.obj true (z24α.1) 0 (.dat T_duty_Instance_rep) (z9.getD z25 T_duty_Instance_zero)) ((cond (S 8) (.obj true (z24α.1) 0 (.dat T_duty_Instance_rep) T_duty_Instance_zero) (.gone)))), (cond (S 9) (.obj true (z24α.2) 0 (.dat T_duty_Instance_rep) T_duty_Instance_zero) (.gone))]) (by first | exact hB z24α S (S 8) (S 9) (S 10) false rfl rfl rfl e11 | (have q := hB z24α S (S 8) (S 9) (S 10) false rfl rfl rfl e11; simp only [cond_true, cond_false] at q; exact q)) ?_
            refine o_from (bind_eqO h_z26) ?_
            refine o_vaddr 0 (.inl rfl) Try.underlying24 type35 rfl (look_d rfl rfl (pr hp 0 rfl rfl)) (look_d rfl rfl (pr hp 1 rfl rfl)) rfl rfl (o_eqO ?_)
            apply h_endA (α := z24α) (z24α.1, z24α.2)
            · exact (.same (.same (.same (.same (.same (.same (.same (.same (.same (.same (.same (.same .nil))))))))))))
            · exact rfl
            · exact rfl
            · exact rfl
            · exact hB (z24α.1, z24α.2) (fun k => S k || Nat.beq k 6) (S 8) (S 9) (S 10) false (or_ne rfl) (or_ne rfl) (or_ne rfl) (or_f e11 rfl)
          · intro z24α S hc hk hp
            have e11 : S 11 = false := (not_yet (j := 11) (q := 1) hc hk rfl rfl rfl rfl)
            refine eq_H (H' := [.vec z20α (T_duty_Instance_rep) z19, .vec z10α (T_duty_Instance_rep) z9, (cond (S 10) (.obj true (z24α.1) 0 (.dat T_duty_Instance_rep) (z9.getD z25 T_duty_Instance_zero)) ((cond (S 8) (.obj true (z24α.1) 0 (.dat T_duty_Instance_rep) T_duty_Instance_zero) (.gone)))), (cond (S 9) (.obj true (z24α.2) 0 (.dat T_duty_Instance_rep) T_duty_Instance_zero) (.gone))]) (by first | exact hB z24α S (S 8) (S 9) (S 10) false rfl rfl rfl e11 | (have q := hB z24α S (S 8) (S 9) (S 10) false rfl rfl rfl e11; simp only [cond_true, cond_false] at q; exact q)) ?_
            refine o_vload (j := z26) (u := (z19.getD z26 T_duty_Instance_zero)) 0 (.inl rfl) type35 rfl guard_none (fun _ => at_get rfl h_z26) (look_d rfl rfl (pr hp 0 rfl rfl)) (fun _ => rfl) ?_
            apply h_endA (α := z24α) (z24α.1, z24α.2)
            · exact (.same (.same (.same (.same (.same (.same (.same (.same (.same (.same (.same (.same .nil))))))))))))
            · exact rfl
            · exact rfl
            · exact rfl
            · exact hB (z24α.1, z24α.2) (fun k => S k || Nat.beq k 7) (S 8) (S 9) (S 10) false (or_ne rfl) (or_ne rfl) (or_ne rfl) (or_f e11 rfl)
          · intro z24α S hc hk hp
            have e10 : S 10 = false := (not_yet (j := 10) (q := 0) hc hk rfl rfl rfl rfl)
            have e11 : S 11 = false := (not_yet (j := 11) (q := 11) hc hk rfl rfl rfl rfl)
            refine eq_H (H' := [.vec z20α (T_duty_Instance_rep) z19, .vec z10α (T_duty_Instance_rep) z9, .gone, (cond (S 9) (.obj true (z24α.2) 0 (.dat T_duty_Instance_rep) T_duty_Instance_zero) (.gone))]) (by first | exact hB z24α S false (S 9) false false hk rfl e10 e11 | (have q := hB z24α S false (S 9) false false hk rfl e10 e11; simp only [cond_true, cond_false] at q; exact q)) ?_
            refine o_alloc zero35 rfl rfl (fun z27 => ?_)
            refine o_weak (H' := [.vec z20α (T_duty_Instance_rep) z19, .vec z10α (T_duty_Instance_rep) z9, .obj true z27 0 (.dat T_duty_Instance_rep) T_duty_Instance_zero, (cond (S 9) (.obj true (z24α.2) 0 (.dat T_duty_Instance_rep) T_duty_Instance_zero) (.gone))]) (sub_pick [1, 2, 0, 4] rfl rfl) ?_
            apply h_endA (α := z24α) (z27, z24α.2)
            · exact (.same (.same (.same (.same (.same (.same (.same (.same (.off hk (.same (.same (.same .nil))))))))))))
            · exact rfl
            · exact rfl
            · exact rfl
            · exact hB (z27, z24α.2) (fun k => S k || Nat.beq k 8) true (S 9) false false (or_i rfl) (or_ne rfl) (or_f e10 rfl) (or_f e11 rfl)
          · intro z24α S hc hk hp
            have e10 : S 10 = false := (not_yet (j := 10) (q := 11) hc hk rfl rfl rfl rfl)
            have e11 : S 11 = false := (not_yet (j := 11) (q := 0) hc hk rfl rfl rfl rfl)
            refine eq_H (H' := [.vec z20α (T_duty_Instance_rep) z19, .vec z10α (T_duty_Instance_rep) z9, (cond (S 8) (.obj true (z24α.1) 0 (.dat T_duty_Instance_rep) T_duty_Instance_zero) (.gone)), .gone]) (by first | exact hB z24α S (S 8) false false false rfl hk e10 e11 | (have q := hB z24α S (S 8) false false false rfl hk e10 e11; simp only [cond_true, cond_false] at q; exact q)) ?_
            refine o_alloc zero35 rfl rfl (fun z28 => ?_)
            refine o_weak (H' := [.vec z20α (T_duty_Instance_rep) z19, .vec z10α (T_duty_Instance_rep) z9, (cond (S 8) (.obj true (z24α.1) 0 (.dat T_duty_Instance_rep) T_duty_Instance_zero) (.gone)), .obj true z28 0 (.dat T_duty_Instance_rep) T_duty_Instance_zero]) (sub_pick [1, 2, 3, 0] rfl rfl) ?_
            apply h_endA (α := z24α) (z24α.1, z28)
            · exact (.same (.same (.same (.same (.same (.same (.same (.same (.same (.off hk (.same (.same .nil))))))))))))
            · exact rfl
            · exact rfl
            · exact rfl
            · exact hB (z24α.1, z28) (fun k => S k || Nat.beq k 9) (S 8) true false false (or_ne rfl) (or_i rfl) (or_f e10 rfl) (or_f e11 rfl)
          · intro z24α S hc hk hp
            have e8 : S 8 = true := (pr hp 0 rfl rfl)
            have e9 : S 9 = true := (pr hp 11 rfl rfl)
            have e11 : S 11 = false := (not_yet (j := 11) (q := 2) hc hk rfl rfl rfl rfl)
            refine eq_H (H' := [.vec z20α (T_duty_Instance_rep) z19, .vec z10α (T_duty_Instance_rep) z9, .obj true (z24α.1) 0 (.dat T_duty_Instance_rep) T_duty_Instance_zero, .obj true (z24α.2) 0 (.dat T_duty_Instance_rep) T_duty_Instance_zero]) (by first | exact hB z24α S true true false false e8 e9 hk e11 | (have q := hB z24α S true true false false e8 e9 hk e11; simp only [cond_true, cond_false] at q; exact q)) ?_
            refine o_weak (H' := [.obj true (z24α.1) 0 (.dat T_duty_Instance_rep) T_duty_Instance_zero, .vec z20α (T_duty_Instance_rep) z19, .vec z10α (T_duty_Instance_rep) z9, .obj true (z24α.2) 0 (.dat T_duty_Instance_rep) T_duty_Instance_zero]) (sub_pick [2, 0, 1, 3] rfl rfl) ?_
            refine o_ostore type35 foc_self guard_none (look_d rfl rfl (pr hp 0 rfl rfl)) (fun _ => rfl) (look_d rfl rfl (pr hp 1 rfl rfl)) (fun _ => rfl) ?_
            refine o_weak (H' := [.vec z20α (T_duty_Instance_rep) z19, .vec z10α (T_duty_Instance_rep) z9, .obj true (z24α.1) 0 (.dat T_duty_Instance_rep) (z9.getD z25 T_duty_Instance_zero), .obj true (z24α.2) 0 (.dat T_duty_Instance_rep) T_duty_Instance_zero]) (sub_pick [1, 2, 0, 3] rfl rfl) ?_
            refine h_none (n := 82) (d := 92) rfl rfl ?_
            apply h_endA (α := z24α) (z24α.1, z24α.2)
            · exact (.same (.same (.same (.same (.same (.same (.same (.same (.same (.same (.same (.same .nil))))))))))))
            · exact rfl
            · exact rfl
            · exact rfl
            · exact hB (z24α.1, z24α.2) (fun k => S k || Nat.beq k 10) true true true false (or_t e8) (or_t e9) (or_i rfl) (or_f e11 rfl)
          · intro z24α S hc hk hp
            have e8 : S 8 = true := (pr hp 11 rfl rfl)
            have e9 : S 9 = true := (pr hp 0 rfl rfl)
            have e10 : S 10 = true := (pr hp 2 rfl rfl)
            refine eq_H (H' := [.vec z20α (T_duty_Instance_rep) z19, .vec z10α (T_duty_Instance_rep) z9, .obj true (z24α.1) 0 (.dat T_duty_Instance_rep) (z9.getD z25 T_duty_Instance_zero), .obj true (z24α.2) 0 (.dat T_duty_Instance_rep) T_duty_Instance_zero]) (by first | exact hB z24α S true true true false e8 e9 e10 hk | (have q := hB z24α S true true true false e8 e9 e10 hk; simp only [cond_true, cond_false] at q; exact q)) ?_
            refine o_weak (H' := [.obj true (z24α.2) 0 (.dat T_duty_Instance_rep) T_duty_Instance_zero, .vec z20α (T_duty_Instance_rep) z19, .vec z10α (T_duty_Instance_rep) z9, .obj true (z24α.1) 0 (.dat T_duty_Instance_rep) (z9.getD z25 T_duty_Instance_zero)]) (sub_pick [3, 0, 1, 2] rfl rfl) ?_
            refine o_ostore type35 foc_self guard_none (look_d rfl rfl (pr hp 0 rfl rfl)) (fun _ => rfl) (look_d rfl rfl (pr hp 1 rfl rfl)) (fun _ => rfl) ?_
            refine o_weak (H' := [.vec z20α (T_duty_Instance_rep) z19, .vec z10α (T_duty_Instance_rep) z9, .obj true (z24α.1) 0 (.dat T_duty_Instance_rep) (z9.getD z25 T_duty_Instance_zero), .obj true (z24α.2) 0 (.dat T_duty_Instance_rep) (z19.getD z26 T_duty_Instance_zero)]) (sub_pick [1, 2, 3, 0] rfl rfl) ?_
            refine h_none (n := 82) (d := 93) rfl rfl ?_
            apply h_endA (α := z24α) (z24α.1, z24α.2)
            · exact (.same (.same (.same (.same (.same (.same (.same (.same (.same (.same (.same (.same .nil))))))))))))
            · exact rfl
            · exact rfl
            · exact rfl
            · exact hB (z24α.1, z24α.2) (fun k => S k || Nat.beq k 11) true true true true (or_t e8) (or_t e9) (or_t e10) (or_i rfl)
          refine den_seq ?_
          refine den_seq ?_
          refine den_region rfl ?_
          refine o_faddr field35_5 type3 (by decide) rfl rfl guard_none (look_tmp rfl) (fun _ => rfl) ?_
          refine o_oloadi 2 rfl type3 T_duty_Instance_foc5 rfl guard_none (look_tmp rfl) (fun _ => rfl) ?_
          refine o_neq rfl rfl guard_none (look_tmp rfl) (look_int rfl) (fun _ => rfl) (fun _ => rfl) ?_
          refine o_move rfl rfl guard_none (look_tmp rfl) (fun _ => rfl) ?_
          refine o_oloadi 2 rfl type35 foc_self rfl (guard_some rfl rfl rfl) (look_tmp rfl) (fun _ => rfl) ?_
          refine o_oloadi 3 rfl type35 foc_self rfl (guard_some rfl rfl rfl) (look_tmp rfl) (fun _ => rfl) ?_
          refine o_stneq (e := T_duty_Instance_eqb) rfl (by kernel_rfl) eqok35 rfl (guard_some rfl rfl rfl) (look_tmp rfl) (look_tmp rfl) (fun h => h) (fun h => h) ?_
          refine o_pick rfl rfl guard_none (look_tmp rfl) (look_tmp rfl) look_bool (fun _ => rfl) (fun h1 h2 => pick_t ((fun _ => rfl) h1) h2) (fun _ _ => rfl) ?_
          refine o_end ?_
          refine den_cond (look_tmp rfl) ?_ ?_
          · refine den_seq ?_
            refine den_region rfl ?_
            refine o_assign rfl rfl guard_none look_bool (fun _ => rfl) ?_
            refine o_end ?_
            refine den_code_ret ?_
            refine dene_ret ?_
            refine dene_loop (by simp) ?_
            refine dene_ret ?_
            refine dene_both (by simp) ?_
            refine dene_ret ?_
            exact dene_res (res1 rfl (rv_tmp rfl))
          · refine den_skip ?_
            refine den_seq ?_
            refine den_region rfl ?_
            refine o_faddr field35_5 type3 (by decide) rfl rfl guard_none (look_tmp rfl) (fun _ => rfl) ?_
            refine o_oloadi 2 rfl type3 T_duty_Instance_foc5 rfl guard_none (look_tmp rfl) (fun _ => rfl) ?_
            refine o_faddr field35_5 type3 (by decide) rfl rfl guard_none (look_tmp rfl) (fun _ => rfl) ?_
            refine o_weak (H' := [.obj true z24α.2 0 (.dat T_duty_Instance_rep) (z19.getD z26 T_duty_Instance_zero), .vec z20α (T_duty_Instance_rep) z19, .vec z10α (T_duty_Instance_rep) z9, .obj true z24α.1 0 (.dat T_duty_Instance_rep) (z9.getD z25 T_duty_Instance_zero)]) (sub_pick [3, 0, 1, 2] rfl rfl) ?_
            refine o_ostore type3 T_duty_Instance_foc5 guard_none (look_tmp rfl) (fun _ => rfl) (look_tmp rfl) (fun _ => rfl) ?_
            refine o_lti (it := fun x => .obj true z24α.2 0 (.dat T_duty_Instance_rep) x) (fun z29 => ?_)
            refine o_end ?_
            refine den_seq ?_
            refine den_region rfl ?_
            refine o_oloadi 3 rfl type35 foc_self rfl guard_none (look_tmp rfl) (fun _ => rfl) ?_
            refine o_oloadi 0 rfl type35 foc_self rfl guard_none (look_tmp rfl) (fun _ => rfl) ?_
            refine o_stneq (e := T_duty_Instance_eqb) rfl (by kernel_rfl) eqok35 rfl guard_none (look_tmp rfl) (look_tmp rfl) (fun _ => rfl) (fun _ => rfl) ?_
            refine o_end ?_
            refine den_cond (look_tmp rfl) ?_ ?_
            · refine den_seq ?_
              refine den_region rfl ?_
              refine o_assign rfl rfl guard_none look_bool (fun _ => rfl) ?_
              refine o_end ?_
              refine den_code_ret ?_
              refine dene_ret ?_
              refine dene_loop (by simp) ?_
              refine dene_ret ?_
              refine dene_both (by simp) ?_
              refine dene_ret ?_
              exact dene_res (res1 rfl (rv_tmp rfl))
            · refine den_skip ?_
              refine den_blkend ?_
              refine den_region rfl ?_
              refine o_move rfl rfl guard_none (look_tmp rfl) (fun _ => rfl) ?_
              refine o_add rfl rfl guard_none (look_tmp rfl) (look_int rfl) (fun _ => rfl) (fun _ => rfl) ?_
              refine o_assign rfl rfl guard_none (look_tmp rfl) (fun _ => rfl) ?_
              refine o_end ?_
              refine den_next ((Sub.trans (sub_pick [1, 2] rfl rfl) (sub_env (sube_cons rfl (sube_cons rfl (sube_cons rfl (sube_nil)))))))
        · refine den_code_exit ?_
          refine dene_out rfl ?_
          refine dene_loop (by simp) ?_
          refine dene_to rfl ?_
          refine den_endl ((Sub.trans (sub_pick [] rfl rfl) (sub_env (sube_nil))))
      refine den_seq ?_
      refine den_region rfl ?_
      refine o_assign rfl rfl guard_none look_bool (fun _ => rfl) ?_
      refine o_end ?_
      refine den_code_ret ?_
      exact dene_res (res1 rfl (rv_tmp rfl))

theorem slices_Clone_int_int_ok  (s_0 : (List Int)) : FunOkI Try.prog 19 [⟨(Rep.int .i64).slice, s_0, true⟩] [] (slices_Clone_int_int s_0) (Rep.val1) (fun (α : Value) (y : (List Int)) => α) (fun α y => [.vec α (Rep.int .i64) y]) := by
  refine fun_okI Try.func19 rfl Try.ntmps19 rfl (all_cons rfl all_nil) (fun w0 ok0 M => ?_)
  refine den_seq ?_
  refine den_region rfl ?_
  refine o_assign rfl rfl guard_none look_nil1 (fun _ => rfl) ?_
  refine o_end ?_
  refine den_seq ?_
  refine den_seq ?_
  refine den_region rfl ?_
  refine o_move rfl rfl guard_none (look_tmp rfl) (fun _ => rfl) ?_
  refine o_slnil (.inl rfl) Try.underlying28 rfl (look_tmp rfl) rfl ?_ ?_
  · show DenO _ _ _ _ _ ((4, ⟨.bool, true, true⟩) :: _) _ _
    refine o_end ?_
    refine den_condt (look_tmp rfl) ?_
    refine den_seq ?_
    refine den_region rfl ?_
    refine o_assign rfl rfl guard_none look_nil1 (fun _ => rfl) ?_
    refine o_end ?_
    refine den_code_ret ?_
    refine dene_ret ?_
    refine dene_weak (sub_nilvec (R := Rep.int .i64) rfl) ?_
    exact dene_resI (Value.slice none 0 0) (res1 rfl (rv_tmp rfl)) (fun _ _ _ k => ato_pick [0] rfl rfl k)
  · show DenO _ _ _ _ _ ((4, ⟨.bool, false, true⟩) :: _) _ _
    refine o_end ?_
    refine den_condf (look_tmp rfl) ?_
    refine den_skip ?_
    refine den_seq ?_
    refine den_region rfl ?_
    refine o_bvec0 Try.underlying28 type3 rfl (fun z1 => ?_)
    refine o_move rfl rfl guard_none (look_tmp rfl) (fun _ => rfl) ?_
    refine o_append Try.underlying28 (info_i info3) (info_z info3) (info_all info3).2.1 rfl (info_all info3).2.2 rfl (look_tmp rfl) rfl (feeds_slice Try.underlying28 rfl (look_tmp rfl) rfl) (fun z3 z2 => ?_)
    refine o_assign rfl rfl guard_none (look_tmp rfl) (fun _ => rfl) ?_
    refine o_end ?_
    refine den_code_ret ?_
    exact dene_resI z3 (res1 rfl (rv_tmp rfl)) (fun _ _ _ k => ato_pick [0] rfl rfl k)

theorem duty_Table_Clone_ok (blk0 : Nat) (off0 : Nat) (val0_0 : Value) (val0_1 : Value) (t_0 : T_duty_Table) : FunOkI Try.prog 10 [⟨.addr, (blk0, off0), true⟩] [.rvec val0_0 (T_duty_Instance_rep) t_0.all, .rvec val0_1 (Rep.int .i64) t_0.wait, .obj false blk0 off0 (.dat (T_duty_Table_repo val0_0 val0_1)) t_0] (duty_Table_Clone t_0) (Rep.addr) (fun (α : ((Nat × Nat) × Value × Value)) (y : T_duty_Table) => α.1) (fun α y => [.vec α.2.1 (T_duty_Instance_rep) y.all, .vec α.2.2 (Rep.int .i64) y.wait, .obj true α.1.1 α.1.2 (.dat (T_duty_Table_repo α.2.1 α.2.2)) y]) := by
  refine fun_okI Try.func10 rfl Try.ntmps10 rfl (all_cons rfl all_nil) (fun w0 ok0 M => ?_)
  refine den_seq ?_
  refine den_region rfl ?_
  refine o_assign rfl rfl guard_none look_nilp (fun _ => rfl) ?_
  refine o_end ?_
  refine den_seq ?_
  refine den_seq ?_
  refine den_region rfl ?_
  refine o_move rfl rfl guard_none (look_tmp rfl) (fun _ => rfl) ?_
  refine o_peql Try.underlying27 rfl rfl guard_none (look_tmp rfl) (fun _ => rfl) ?_
  refine o_end ?_
  refine den_condf (look_tmp rfl) ?_
  refine den_skip ?_
  refine den_seq ?_
  refine den_open (fun z2 h_z2 => ?_)
  refine den_open (fun z4 h_z4 => ?_)
  have hB : ∀ (z1α : (Value × Value × Nat)) (S : Nat → Bool) (b4 b9 b11 : Bool), S 4 = b4 → S 9 = b9 → S 11 = b11 → (([.rvec val0_0 (T_duty_Instance_rep) t_0.all, .rvec val0_1 (Rep.int .i64) t_0.wait, .obj false blk0 off0 (.dat (T_duty_Table_repo val0_0 val0_1)) t_0, (cond (S 4) (.vec (z1α.1) (T_duty_Instance_rep) z2) (.gone)), (cond (S 9) (.vec (z1α.2.1) (Rep.int .i64) z4) (.gone)), (cond (S 11) (.obj true (z1α.2.2) 0 (.dat (T_duty_Table_repo (z1α.1) (z1α.2.1))) (⟨z2, z4⟩ : T_duty_Table)) (.gone))] : List Go.Eng.Item)) = ([.rvec val0_0 (T_duty_Instance_rep) t_0.all, .rvec val0_1 (Rep.int .i64) t_0.wait, .obj false blk0 off0 (.dat (T_duty_Table_repo val0_0 val0_1)) t_0, (cond b4 (.vec (z1α.1) (T_duty_Instance_rep) z2) (.gone)), (cond b9 (.vec (z1α.2.1) (Rep.int .i64) z4) (.gone)), (cond b11 (.obj true (z1α.2.2) 0 (.dat (T_duty_Table_repo (z1α.1) (z1α.2.1))) (⟨z2, z4⟩ : T_duty_Table)) (.gone))] : List Go.Eng.Item) := fun z1α S b4 b9 b11 h4 h9 h11 => by subst h4; subst h9; subst h11; rfl
  refine den_weak sub_gone ?_
  refine den_weak sub_gone ?_
  refine den_weak sub_gone ?_
  refine den_weak (sub_pick (H' := [.rvec val0_0 (T_duty_Instance_rep) t_0.all, .rvec val0_1 (Rep.int .i64) t_0.wait, .obj false blk0 off0 (.dat (T_duty_Table_repo val0_0 val0_1)) t_0, .gone, .gone, .gone]) [3, 4, 5, 0, 1, 2] rfl rfl) ?_
  refine den_drawA (A := (Value × Value × Nat)) (H' := fun z1α => [.rvec val0_0 (T_duty_Instance_rep) t_0.all, .rvec val0_1 (Rep.int .i64) t_0.wait, .obj false blk0 off0 (.dat (T_duty_Table_repo val0_0 val0_1)) t_0, .vec (z1α.1) (T_duty_Instance_rep) z2, .vec (z1α.2.1) (Rep.int .i64) z4, .obj true (z1α.2.2) 0 (.dat (T_duty_Table_repo (z1α.1) (z1α.2.1))) (⟨z2, z4⟩ : T_duty_Table)]) (fun z1α => [(5, ⟨Rep.addr, (blk0, off0), true⟩), (6, ⟨Rep.addr, (blk0, off0), true⟩), (7, ⟨Rep.addr, (blk0, off0), true⟩), (8, ⟨Rep.val1, val0_0, true⟩), (9, ⟨Rep.val1, z1α.1, true⟩), (10, ⟨Rep.addr, (blk0, off0), true⟩), (11, ⟨Rep.addr, (blk0, off0), true⟩), (12, ⟨Rep.addr, (blk0, off0 + 1), true⟩), (13, ⟨Rep.val1, val0_1, true⟩), (14, ⟨Rep.val1, z1α.2.1, true⟩), (15, ⟨(T_duty_Table_repo (z1α.1) (z1α.2.1)), (⟨z2, z4⟩ : T_duty_Table), true⟩), (16, ⟨Rep.addr, (z1α.2.2, 0), true⟩), (2, ⟨Rep.addr, (z1α.2.2, 0), true⟩)]) (fun z1α S => [.rvec val0_0 (T_duty_Instance_rep) t_0.all, .rvec val0_1 (Rep.int .i64) t_0.wait, .obj false blk0 off0 (.dat (T_duty_Table_repo val0_0 val0_1)) t_0, (cond (S 4) (.vec (z1α.1) (T_duty_Instance_rep) z2) (.gone)), (cond (S 9) (.vec (z1α.2.1) (Rep.int .i64) z4) (.gone)), (cond (S 11) (.obj true (z1α.2.2) 0 (.dat (T_duty_Table_repo (z1α.1) (z1α.2.1))) (⟨z2, z4⟩ : T_duty_Table)) (.gone))]) ((Value.slice none 0 0), (Value.slice none 0 0), 0) mixed (fun _ => rfl) rfl rfl (fun z1α S hS => hB z1α S true true true (hS 4 (by decide)) (hS 9 (by decide)) (hS 11 (by decide))) ⟨?_, ?_, ?_, ?_, ?_, ?_, ?_, ?_, ?_, ?_, ?_, ?_, ?_, trivial⟩ (fun z1α => ?_)
  · intro z1α S hc hk hp
    have e4 : S 4 = false := (not_yet (j := 4) (q := 0) hc (not_yet (j := 3) (q := 0) hc (not_yet (j := 2) (q := 0) hc (not_yet (j := 1) (q := 0) hc hk rfl rfl rfl rfl) rfl rfl rfl rfl) rfl rfl rfl rfl) rfl rfl rfl rfl)
    have e9 : S 9 = false := (not_yet (j := 9) (q := 1) hc (not_yet (j := 4) (q := 0) hc (not_yet (j := 3) (q := 0) hc (not_yet (j := 2) (q := 0) hc (not_yet (j := 1) (q := 0) hc hk rfl rfl rfl rfl) rfl rfl rfl rfl) rfl rfl rfl rfl) rfl rfl rfl rfl) rfl rfl rfl rfl)
    have e11 : S 11 = false := (not_yet (j := 11) (q := 0) hc (not_yet (j := 10) (q := 0) hc (not_yet (j := 4) (q := 0) hc (not_yet (j := 3) (q := 0) hc (not_yet (j := 2) (q := 0) hc (not_yet (j := 1) (q := 0) hc hk rfl rfl rfl rfl) rfl rfl rfl rfl) rfl rfl rfl rfl) rfl rfl rfl rfl) rfl rfl rfl rfl) rfl rfl rfl rfl)
    refine eq_H (H' := [.rvec val0_0 (T_duty_Instance_rep) t_0.all, .rvec val0_1 (Rep.int .i64) t_0.wait, .obj false blk0 off0 (.dat (T_duty_Table_repo val0_0 val0_1)) t_0, .gone, .gone, .gone]) (by first | exact hB z1α S false false false e4 e9 e11 | (have q := hB z1α S false false false e4 e9 e11; simp only [cond_true, cond_false] at q; exact q)) ?_
    refine o_move rfl rfl guard_none (look_o rfl rfl) (fun _ => rfl) ?_
    apply h_endA (α := z1α) (z1α.1, z1α.2.1, z1α.2.2)
    · exact (.same (.same (.same (.same (.same (.same (.same (.same (.same (.same (.same (.same (.same .nil)))))))))))))
    · exact rfl
    · exact rfl
    · exact rfl
    · exact hB (z1α.1, z1α.2.1, z1α.2.2) (fun k => S k || Nat.beq k 0) false false false (or_f e4 rfl) (or_f e9 rfl) (or_f e11 rfl)
  · intro z1α S hc hk hp
    have e4 : S 4 = false := (not_yet (j := 4) (q := 0) hc (not_yet (j := 3) (q := 0) hc (not_yet (j := 2) (q := 0) hc hk rfl rfl rfl rfl) rfl rfl rfl rfl) rfl rfl rfl rfl)
    have e9 : S 9 = false := (not_yet (j := 9) (q := 1) hc (not_yet (j := 4) (q := 0) hc (not_yet (j := 3) (q := 0) hc (not_yet (j := 2) (q := 0) hc hk rfl rfl rfl rfl) rfl rfl rfl rfl) rfl rfl rfl rfl) rfl rfl rfl rfl)
    have e11 : S 11 = false := (not_yet (j := 11) (q := 0) hc (not_yet (j := 10) (q := 0) hc (not_yet (j := 4) (q := 0) hc (not_yet (j := 3) (q := 0) hc (not_yet (j := 2) (q := 0) hc hk rfl rfl rfl rfl) rfl rfl rfl rfl) rfl rfl rfl rfl) rfl rfl rfl rfl) rfl rfl rfl rfl)
    refine eq_H (H' := [.rvec val0_0 (T_duty_Instance_rep) t_0.all, .rvec val0_1 (Rep.int .i64) t_0.wait, .obj false blk0 off0 (.dat (T_duty_Table_repo val0_0 val0_1)) t_0, .gone, .gone, .gone]) (by first | exact hB z1α S false false false e4 e9 e11 | (have q := hB z1α S false false false e4 e9 e11; simp only [cond_true, cond_false] at q; exact q)) ?_
    refine o_nilc rfl rfl guard_none (look_d rfl rfl (pr hp 0 rfl rfl)) (fun _ => rfl) ?_
    apply h_endA (α := z1α) (z1α.1, z1α.2.1, z1α.2.2)
    · exact (.same (.same (.same (.same (.same (.same (.same (.same (.same (.same (.same (.same (.same .nil)))))))))))))
    · exact rfl
    · exact rfl
    · exact rfl
    · exact hB (z1α.1, z1α.2.1, z1α.2.2) (fun k => S k || Nat.beq k 1) false false false (or_f e4 rfl) (or_f e9 rfl) (or_f e11 rfl)
  · intro z1α S hc hk hp
    have e4 : S 4 = false := (not_yet (j := 4) (q := 0) hc (not_yet (j := 3) (q := 0) hc hk rfl rfl rfl rfl) rfl rfl rfl rfl)
    have e9 : S 9 = false := (not_yet (j := 9) (q := 1) hc (not_yet (j := 4) (q := 0) hc (not_yet (j := 3) (q := 0) hc hk rfl rfl rfl rfl) rfl rfl rfl rfl) rfl rfl rfl rfl)
    have e11 : S 11 = false := (not_yet (j := 11) (q := 0) hc (not_yet (j := 10) (q := 0) hc (not_yet (j := 4) (q := 0) hc (not_yet (j := 3) (q := 0) hc hk rfl rfl rfl rfl) rfl rfl rfl rfl) rfl rfl rfl rfl) rfl rfl rfl rfl)
    refine eq_H (H' := [.rvec val0_0 (T_duty_Instance_rep) t_0.all, .rvec val0_1 (Rep.int .i64) t_0.wait, .obj false blk0 off0 (.dat (T_duty_Table_repo val0_0 val0_1)) t_0, .gone, .gone, .gone]) (by first | exact hB z1α S false false false e4 e9 e11 | (have q := hB z1α S false false false e4 e9 e11; simp only [cond_true, cond_false] at q; exact q)) ?_
    refine o_faddr field30_0 type24 (by decide) rfl rfl guard_none (look_d rfl rfl (pr hp 0 rfl rfl)) (fun _ => rfl) ?_
    apply h_endA (α := z1α) (z1α.1, z1α.2.1, z1α.2.2)
    · exact (.same (.same (.same (.same (.same (.same (.same (.same (.same (.same (.same (.same (.same .nil)))))))))))))
    · exact rfl
    · exact rfl
    · exact rfl
    · exact hB (z1α.1, z1α.2.1, z1α.2.2) (fun k => S k || Nat.beq k 2) false false false (or_f e4 rfl) (or_f e9 rfl) (or_f e11 rfl)
  · intro z1α S hc hk hp
    have e4 : S 4 = false := (not_yet (j := 4) (q := 0) hc hk rfl rfl rfl rfl)
    have e9 : S 9 = false := (not_yet (j := 9) (q := 1) hc (not_yet (j := 4) (q := 0) hc hk rfl rfl rfl rfl) rfl rfl rfl rfl)
    have e11 : S 11 = false := (not_yet (j := 11) (q := 0) hc (not_yet (j := 10) (q := 0) hc (not_yet (j := 4) (q := 0) hc hk rfl rfl rfl rfl) rfl rfl rfl rfl) rfl rfl rfl rfl)
    refine eq_H (H' := [.rvec val0_0 (T_duty_Instance_rep) t_0.all, .rvec val0_1 (Rep.int .i64) t_0.wait, .obj false blk0 off0 (.dat (T_duty_Table_repo val0_0 val0_1)) t_0, .gone, .gone, .gone]) (by first | exact hB z1α S false false false e4 e9 e11 | (have q := hB z1α S false false false e4 e9 e11; simp only [cond_true, cond_false] at q; exact q)) ?_
    refine o_oloadi 2 rfl (typeisv24 val0_0) (T_duty_Table_foco0 val0_0 val0_1) rfl guard_none (look_d rfl rfl (pr hp 0 rfl rfl)) (fun _ => rfl) ?_
    refine o_asv ?_
    apply h_endA (α := z1α) (z1α.1, z1α.2.1, z1α.2.2)
    · exact (.same (.same (.same (.same (.same (.same (.same (.same (.same (.same (.same (.same (.same .nil)))))))))))))
    · exact rfl
    · exact rfl
    · exact rfl
    · exact hB (z1α.1, z1α.2.1, z1α.2.2) (fun k => S k || Nat.beq k 3) false false false (or_f e4 rfl) (or_f e9 rfl) (or_f e11 rfl)
  · intro z1α S hc hk hp
    have e9 : S 9 = false := (not_yet (j := 9) (q := 1) hc hk rfl rfl rfl rfl)
    have e11 : S 11 = false := (not_yet (j := 11) (q := 0) hc (not_yet (j := 10) (q := 0) hc hk rfl rfl rfl rfl) rfl rfl rfl rfl)
    refine eq_H (H' := [.rvec val0_0 (T_duty_Instance_rep) t_0.all, .rvec val0_1 (Rep.int .i64) t_0.wait, .obj false blk0 off0 (.dat (T_duty_Table_repo val0_0 val0_1)) t_0, .gone, .gone, .gone]) (by first | exact hB z1α S false false false hk e9 e11 | (have q := hB z1α S false false false hk e9 e11; simp only [cond_true, cond_false] at q; exact q)) ?_
    refine o_from (bind_eqO h_z2) ?_
    refine o_callL (zs := fun y => y) 0 rfl rfl rfl rfl callable18 (lookl_whole (.inr rfl) (look_d rfl rfl (pr hp 0 rfl rfl))) (Nat.blt_eq.mp rfl) (fl_iso (fl_cons fl_int (fl_cons fl_int (fl_cons fl_str (fl_cons fl_int (fl_cons fl_bool (fl_cons fl_int fl_nil))))))) (slices_Clone_duty_Instance_duty_Instance_ok _) (fun z3α => o_eqOH ?_)
    refine o_weak (H' := [.rvec val0_0 (T_duty_Instance_rep) t_0.all, .rvec val0_1 (Rep.int .i64) t_0.wait, .obj false blk0 off0 (.dat (T_duty_Table_repo val0_0 val0_1)) t_0, .vec z3α (T_duty_Instance_rep) z2, .gone, .gone]) (sub_pick [1, 2, 3, 0, 5, 6] rfl rfl) ?_
    apply h_endA (α := z1α) (z3α, z1α.2.1, z1α.2.2)
    · exact (.same (.same (.same (.same (.off hk (.same (.same (.same (.same (.same (.off (not_yet (j := 10) (q := 0) hc hk rfl rfl rfl rfl) (.same (.same .nil)))))))))))))
    · exact rfl
    · exact rfl
    · exact rfl
    · exact hB (z3α, z1α.2.1, z1α.2.2) (fun k => S k || Nat.beq k 4) true false false (or_i rfl) (or_f e9 rfl) (or_f e11 rfl)
  · intro z1α S hc hk hp
    have e9 : S 9 = false := (not_yet (j := 9) (q := 0) hc (not_yet (j := 8) (q := 0) hc (not_yet (j := 7) (q := 0) hc (not_yet (j := 6) (q := 0) hc hk rfl rfl rfl rfl) rfl rfl rfl rfl) rfl rfl rfl rfl) rfl rfl rfl rfl)
    have e11 : S 11 = false := (not_yet (j := 11) (q := 0) hc (not_yet (j := 10) (q := 1) hc (not_yet (j := 9) (q := 0) hc (not_yet (j := 8) (q := 0) hc (not_yet (j := 7) (q := 0) hc (not_yet (j := 6) (q := 0) hc hk rfl rfl rfl rfl) rfl rfl rfl rfl) rfl rfl rfl rfl) rfl rfl rfl rfl) rfl rfl rfl rfl) rfl rfl rfl rfl)
    refine eq_H (H' := [.rvec val0_0 (T_duty_Instance_rep) t_0.all, .rvec val0_1 (Rep.int .i64) t_0.wait, .obj false blk0 off0 (.dat (T_duty_Table_repo val0_0 val0_1)) t_0, (cond (S 4) (.vec (z1α.1) (T_duty_Instance_rep) z2) (.gone)), .gone, .gone]) (by first | exact hB z1α S (S 4) false false rfl e9 e11 | (have q := hB z1α S (S 4) false false rfl e9 e11; simp only [cond_true, cond_false] at q; exact q)) ?_
    refine o_move rfl rfl guard_none (look_o rfl rfl) (fun _ => rfl) ?_
    apply h_endA (α := z1α) (z1α.1, z1α.2.1, z1α.2.2)
    · exact (.same (.same (.same (.same (.same (.same (.same (.same (.same (.same (.same (.same (.same .nil)))))))))))))
    · exact rfl
    · exact rfl
    · exact rfl
    · exact hB (z1α.1, z1α.2.1, z1α.2.2) (fun k => S k || Nat.beq k 5) (S 4) false false (or_ne rfl) (or_f e9 rfl) (or_f e11 rfl)
  · intro z1α S hc hk hp
    have e9 : S 9 = false := (not_yet (j := 9) (q := 0) hc (not_yet (j := 8) (q := 0) hc (not_yet (j := 7) (q := 0) hc hk rfl rfl rfl rfl) rfl rfl rfl rfl) rfl rfl rfl rfl)
    have e11 : S 11 = false := (not_yet (j := 11) (q := 0) hc (not_yet (j := 10) (q := 1) hc (not_yet (j := 9) (q := 0) hc (not_yet (j := 8) (q := 0) hc (not_yet (j := 7) (q := 0) hc hk rfl rfl rfl rfl) rfl rfl rfl rfl) rfl rfl rfl rfl) rfl rfl rfl rfl) rfl rfl rfl rfl)
    refine eq_H (H' := [.rvec val0_0 (T_duty_Instance_rep) t_0.all, .rvec val0_1 (Rep.int .i64) t_0.wait, .obj false blk0 off0 (.dat (T_duty_Table_repo val0_0 val0_1)) t_0, (cond (S 4) (.vec (z1α.1) (T_duty_Instance_rep) z2) (.gone)), .gone, .gone]) (by first | exact hB z1α S (S 4) false false rfl e9 e11 | (have q := hB z1α S (S 4) false false rfl e9 e11; simp only [cond_true, cond_false] at q; exact q)) ?_
    refine o_nilc rfl rfl guard_none (look_d rfl rfl (pr hp 0 rfl rfl)) (fun _ => rfl) ?_
    apply h_endA (α := z1α) (z1α.1, z1α.2.1, z1α.2.2)
    · exact (.same (.same (.same (.same (.same (.same (.same (.same (.same (.same (.same (.same (.same .nil)))))))))))))
    · exact rfl
    · exact rfl
    · exact rfl
    · exact hB (z1α.1, z1α.2.1, z1α.2.2) (fun k => S k || Nat.beq k 6) (S 4) false false (or_ne rfl) (or_f e9 rfl) (or_f e11 rfl)
  · intro z1α S hc hk hp
    have e9 : S 9 = false := (not_yet (j := 9) (q := 0) hc (not_yet (j := 8) (q := 0) hc hk rfl rfl rfl rfl) rfl rfl rfl rfl)
    have e11 : S 11 = false := (not_yet (j := 11) (q := 0) hc (not_yet (j := 10) (q := 1) hc (not_yet (j := 9) (q := 0) hc (not_yet (j := 8) (q := 0) hc hk rfl rfl rfl rfl) rfl rfl rfl rfl) rfl rfl rfl rfl) rfl rfl rfl rfl)
    refine eq_H (H' := [.rvec val0_0 (T_duty_Instance_rep) t_0.all, .rvec val0_1 (Rep.int .i64) t_0.wait, .obj false blk0 off0 (.dat (T_duty_Table_repo val0_0 val0_1)) t_0, (cond (S 4) (.vec (z1α.1) (T_duty_Instance_rep) z2) (.gone)), .gone, .gone]) (by first | exact hB z1α S (S 4) false false rfl e9 e11 | (have q := hB z1α S (S 4) false false rfl e9 e11; simp only [cond_true, cond_false] at q; exact q)) ?_
    refine o_faddr field30_1 type28 (by decide) rfl rfl guard_none (look_d rfl rfl (pr hp 0 rfl rfl)) (fun _ => rfl) ?_
    apply h_endA (α := z1α) (z1α.1, z1α.2.1, z1α.2.2)
    · exact (.same (.same (.same (.same (.same (.same (.same (.same (.same (.same (.same (.same (.same .nil)))))))))))))
    · exact rfl
    · exact rfl
    · exact rfl
    · exact hB (z1α.1, z1α.2.1, z1α.2.2) (fun k => S k || Nat.beq k 7) (S 4) false false (or_ne rfl) (or_f e9 rfl) (or_f e11 rfl)
  · intro z1α S hc hk hp
    have e9 : S 9 = false := (not_yet (j := 9) (q := 0) hc hk rfl rfl rfl rfl)
    have e11 : S 11 = false := (not_yet (j := 11) (q := 0) hc (not_yet (j := 10) (q := 1) hc (not_yet (j := 9) (q := 0) hc hk rfl rfl rfl rfl) rfl rfl rfl rfl) rfl rfl rfl rfl)
    refine eq_H (H' := [.rvec val0_0 (T_duty_Instance_rep) t_0.all, .rvec val0_1 (Rep.int .i64) t_0.wait, .obj false blk0 off0 (.dat (T_duty_Table_repo val0_0 val0_1)) t_0, (cond (S 4) (.vec (z1α.1) (T_duty_Instance_rep) z2) (.gone)), .gone, .gone]) (by first | exact hB z1α S (S 4) false false rfl e9 e11 | (have q := hB z1α S (S 4) false false rfl e9 e11; simp only [cond_true, cond_false] at q; exact q)) ?_
    refine o_oloadi 2 rfl (typeisv28 val0_1) (T_duty_Table_foco1 val0_0 val0_1) rfl guard_none (look_d rfl rfl (pr hp 0 rfl rfl)) (fun _ => rfl) ?_
    refine o_asv ?_
    apply h_endA (α := z1α) (z1α.1, z1α.2.1, z1α.2.2)
    · exact (.same (.same (.same (.same (.same (.same (.same (.same (.same (.same (.same (.same (.same .nil)))))))))))))
    · exact rfl
    · exact rfl
    · exact rfl
    · exact hB (z1α.1, z1α.2.1, z1α.2.2) (fun k => S k || Nat.beq k 8) (S 4) false false (or_ne rfl) (or_f e9 rfl) (or_f e11 rfl)
  · intro z1α S hc hk hp
    have e4 : S 4 = true := (pr hp 1 rfl rfl)
    have e11 : S 11 = false := (not_yet (j := 11) (q := 0) hc (not_yet (j := 10) (q := 1) hc hk rfl rfl rfl rfl) rfl rfl rfl rfl)
    refine eq_H (H' := [.rvec val0_0 (T_duty_Instance_rep) t_0.all, .rvec val0_1 (Rep.int .i64) t_0.wait, .obj false blk0 off0 (.dat (T_duty_Table_repo val0_0 val0_1)) t_0, .vec (z1α.1) (T_duty_Instance_rep) z2, .gone, .gone]) (by first | exact hB z1α S true false false e4 hk e11 | (have q := hB z1α S true false false e4 hk e11; simp only [cond_true, cond_false] at q; exact q)) ?_
    refine o_from (bind_eqO h_z4) ?_
    refine o_callL (zs := fun y => y) 1 rfl rfl rfl rfl callable19 (lookl_whole (.inr rfl) (look_d rfl rfl (pr hp 0 rfl rfl))) (Nat.blt_eq.mp rfl) fl_int (slices_Clone_int_int_ok _) (fun z5α => o_eqOH ?_)
    refine o_weak (H' := [.rvec val0_0 (T_duty_Instance_rep) t_0.all, .rvec val0_1 (Rep.int .i64) t_0.wait, .obj false blk0 off0 (.dat (T_duty_Table_repo val0_0 val0_1)) t_0, .vec (z1α.1) (T_duty_Instance_rep) z2, .vec z5α (Rep.int .i64) z4, .gone]) (sub_pick [1, 2, 3, 4, 0, 6] rfl rfl) ?_
    apply h_endA (α := z1α) (z1α.1, z5α, z1α.2.2)
    · exact (.same (.same (.same (.same (.same (.same (.same (.same (.same (.off hk (.off (not_yet (j := 10) (q := 1) hc hk rfl rfl rfl rfl) (.same (.same .nil)))))))))))))
    · exact rfl
    · exact rfl
    · exact rfl
    · exact hB (z1α.1, z5α, z1α.2.2) (fun k => S k || Nat.beq k 9) true true false (or_t e4) (or_i rfl) (or_f e11 rfl)
  · intro z1α S hc hk hp
    have e4 : S 4 = true := (pr hp 0 rfl rfl)
    have e9 : S 9 = true := (pr hp 1 rfl rfl)
    have e11 : S 11 = false := (not_yet (j := 11) (q := 0) hc hk rfl rfl rfl rfl)
    refine eq_H (H' := [.rvec val0_0 (T_duty_Instance_rep) t_0.all, .rvec val0_1 (Rep.int .i64) t_0.wait, .obj false blk0 off0 (.dat (T_duty_Table_repo val0_0 val0_1)) t_0, .vec (z1α.1) (T_duty_Instance_rep) z2, .vec (z1α.2.1) (Rep.int .i64) z4, .gone]) (by first | exact hB z1α S true true false e4 e9 e11 | (have q := hB z1α S true true false e4 e9 e11; simp only [cond_true, cond_false] at q; exact q)) ?_
    refine o_build (R := T_duty_Table_repo0 (z1α.1) (z1α.2.1)) (f := T_duty_Table_tupo) (y := (⟨z2, z4⟩ : T_duty_Table)) shape30 rfl rfl rfl rfl guard_none (bld_part rfl rfl (look_isvv 3 (.inl rfl) (look_d rfl rfl (pr hp 0 rfl rfl))) (fun _ => rfl) (bld_part rfl rfl (look_isvv 4 (.inl rfl) (look_d rfl rfl (pr hp 1 rfl rfl))) (fun _ => rfl) (bld_nil))) ?_
    apply h_endA (α := z1α) (z1α.1, z1α.2.1, z1α.2.2)
    · exact (.same (.same (.same (.same (.same (.same (.same (.same (.same (.same (.same (.same (.same .nil)))))))))))))
    · exact rfl
    · exact rfl
    · exact rfl
    · exact hB (z1α.1, z1α.2.1, z1α.2.2) (fun k => S k || Nat.beq k 10) true true false (or_t e4) (or_t e9) (or_f e11 rfl)
  · intro z1α S hc hk hp
    have e4 : S 4 = true := (pr (hc 10 _ rfl (pr hp 0 rfl rfl)) 0 rfl rfl)
    have e9 : S 9 = true := (pr (hc 10 _ rfl (pr hp 0 rfl rfl)) 1 rfl rfl)
    refine eq_H (H' := [.rvec val0_0 (T_duty_Instance_rep) t_0.all, .rvec val0_1 (Rep.int .i64) t_0.wait, .obj false blk0 off0 (.dat (T_duty_Table_repo val0_0 val0_1)) t_0, .vec (z1α.1) (T_duty_Instance_rep) z2, .vec (z1α.2.1) (Rep.int .i64) z4, .gone]) (by first | exact hB z1α S true true false e4 e9 hk | (have q := hB z1α S true true false e4 e9 hk; simp only [cond_true, cond_false] at q; exact q)) ?_
    refine o_box rfl rfl (look_d rfl rfl (pr hp 0 rfl rfl)) rfl (fun z6 => ?_)
    refine o_weak (H' := [.rvec val0_0 (T_duty_Instance_rep) t_0.all, .rvec val0_1 (Rep.int .i64) t_0.wait, .obj false blk0 off0 (.dat (T_duty_Table_repo val0_0 val0_1)) t_0, .vec (z1α.1) (T_duty_Instance_rep) z2, .vec (z1α.2.1) (Rep.int .i64) z4, .obj true z6 0 (.dat (T_duty_Table_repo (z1α.1) (z1α.2.1))) (⟨z2, z4⟩ : T_duty_Table)]) (sub_pick [1, 2, 3, 4, 5, 0] rfl rfl) ?_
    apply h_endA (α := z1α) (z1α.1, z1α.2.1, z6)
    · exact (.same (.same (.same (.same (.same (.same (.same (.same (.same (.same (.same (.off hk (.off (not_yet (j := 12) (q := 0) hc hk rfl rfl rfl rfl) .nil)))))))))))))
    · exact rfl
    · exact rfl
    · exact rfl
    · exact hB (z1α.1, z1α.2.1, z6) (fun k => S k || Nat.beq k 11) true true true (or_t e4) (or_t e9) (or_i rfl)
  · intro z1α S hc hk hp
    have e4 : S 4 = true := (pr hp 6 rfl rfl)
    have e9 : S 9 = true := (pr hp 1 rfl rfl)
    have e11 : S 11 = true := (pr hp 0 rfl rfl)
    refine eq_H (H' := [.rvec val0_0 (T_duty_Instance_rep) t_0.all, .rvec val0_1 (Rep.int .i64) t_0.wait, .obj false blk0 off0 (.dat (T_duty_Table_repo val0_0 val0_1)) t_0, .vec (z1α.1) (T_duty_Instance_rep) z2, .vec (z1α.2.1) (Rep.int .i64) z4, .obj true (z1α.2.2) 0 (.dat (T_duty_Table_repo (z1α.1) (z1α.2.1))) (⟨z2, z4⟩ : T_duty_Table)]) (by first | exact hB z1α S true true true e4 e9 e11 | (have q := hB z1α S true true true e4 e9 e11; simp only [cond_true, cond_false] at q; exact q)) ?_
    refine o_assign rfl rfl guard_none (look_d rfl rfl (pr hp 0 rfl rfl)) (fun _ => rfl) ?_
    apply h_endA (α := z1α) (z1α.1, z1α.2.1, z1α.2.2)
    · exact (.same (.same (.same (.same (.same (.same (.same (.same (.same (.same (.same (.same (.same .nil)))))))))))))
    · exact rfl
    · exact rfl
    · exact rfl
    · exact hB (z1α.1, z1α.2.1, z1α.2.2) (fun k => S k || Nat.beq k 12) true true true (or_t e4) (or_t e9) (or_t e11)
  refine den_code_ret ?_
  exact dene_resI ((z1α.2.2, 0), z1α.1, z1α.2.1) (res1 rfl (rv_tmp rfl)) (fun _ _ _ k => ato_pick [3, 4, 5] rfl rfl k)

theorem duty_Table_Add_n0_ok  (x_1 : T_duty_Instance) : FunOk Try.prog 12 [⟨.nilp, (), true⟩, ⟨T_duty_Instance_rep, x_1, true⟩] (duty_Table_Add_n0 x_1) (Rep.int .i64) := by
  refine fun_ok Try.func12 rfl Try.ntmps12 rfl (all_cons rfl (all_cons rfl all_nil)) (fun w0 ok0 => ?_)
  refine den_seq ?_
  refine den_region rfl ?_
  refine o_box rfl rfl (look_tmp rfl) rfl (fun z1 => ?_)
  refine o_assign rfl rfl guard_none (look_int rfl) (fun _ => rfl) ?_
  refine o_end ?_
  refine den_seq ?_
  refine den_seq ?_
  refine den_region rfl ?_
  refine o_move rfl rfl guard_none (look_tmp rfl) (fun _ => rfl) ?_
  refine o_neql Try.underlying27 rfl rfl guard_none (look_tmp rfl) (fun _ => rfl) ?_
  refine o_end ?_
  refine den_condt (look_tmp rfl) ?_
  refine den_seq ?_
  refine den_region rfl ?_
  refine o_assign rfl rfl guard_none (look_int rfl) (fun _ => rfl) ?_
  refine o_end ?_
  refine den_code_ret ?_
  refine dene_ret ?_
  exact dene_res (res1 rfl (rv_tmp rfl))

theorem duty_Table_turn_v3_ok (blk2_0 : Nat) (off2_0 : Nat) (blk2_1 : Nat) (off2_1 : Nat) (blk2_2 : Nat) (off2_2 : Nat) (state_1 : Int) (c_2_0 : Int) (c_2_1 : Bytes) (c_2_2 : Int) : FunOkI Try.prog 20 [⟨.nilp, (), true⟩, ⟨Rep.int .i64, state_1, true⟩, ⟨(Rep.clo 21 [⟨.addr, (blk2_0, off2_0), true⟩, ⟨.addr, (blk2_1, off2_1), true⟩, ⟨.addr, (blk2_2, off2_2), true⟩]), (), true⟩] [.obj false blk2_0 off2_0 (.dat (Rep.int .i64)) c_2_0, .obj false blk2_1 off2_1 (.dat Rep.str) c_2_1, .obj false blk2_2 off2_2 (.dat (Rep.int .i64)) c_2_2] (duty_Table_turn_v3 state_1 c_2_0 c_2_1 c_2_2) ((T_duty_Instance_rep).slice) (fun (α : Unit) (y : (List T_duty_Instance)) => y) (fun α y => []) := by
  refine fun_okI Try.func20 rfl Try.ntmps20 rfl (all_cons rfl (all_cons rfl (all_cons rfl all_nil))) (fun w0 ok0 M => ?_)
  refine den_seq ?_
  refine den_region rfl ?_
  refine o_assign rfl rfl guard_none look_nil1 (fun _ => rfl) ?_
  refine o_end ?_
  refine den_seq ?_
  refine den_seq ?_
  refine den_region rfl ?_
  refine o_move rfl rfl guard_none (look_tmp rfl) (fun _ => rfl) ?_
  refine o_neql Try.underlying27 rfl rfl guard_none (look_tmp rfl) (fun _ => rfl) ?_
  refine o_end ?_
  refine den_condt (look_tmp rfl) ?_
  refine den_seq ?_
  refine den_region rfl ?_
  refine o_assign rfl rfl guard_none look_nil1 (fun _ => rfl) ?_
  refine o_end ?_
  refine den_code_ret ?_
  refine dene_ret ?_
  refine dene_weak (sub_nild (R := T_duty_Instance_rep) (s := 6) rfl) ?_
  exact dene_resI () (res1 rfl (rv_tmp rfl)) (fun _ _ _ k => ato_pick [] rfl rfl k)

theorem duty_Table_Fulfil_n0_ok  (id_1 : Int) (act_2 : Bytes) (a_3 : Int) : FunOk Try.prog 13 [⟨.nilp, (), true⟩, ⟨Rep.int .i64, id_1, true⟩, ⟨Rep.str, act_2, true⟩, ⟨Rep.int .i64, a_3, true⟩] (duty_Table_Fulfil_n0 id_1 act_2 a_3) (Rep.int .i64) := by
  refine fun_ok Try.func13 rfl Try.ntmps13 rfl (all_cons rfl (all_cons rfl (all_cons rfl (all_cons rfl all_nil)))) (fun w0 ok0 => ?_)
  refine den_seq ?_
  refine den_region rfl ?_
  refine o_box rfl rfl (look_tmp rfl) rfl (fun z1 => ?_)
  refine o_box rfl rfl (look_tmp rfl) rfl (fun z2 => ?_)
  refine o_box rfl rfl (look_tmp rfl) rfl (fun z3 => ?_)
  refine o_assign rfl rfl guard_none (look_int rfl) (fun _ => rfl) ?_
  refine o_end ?_
  refine den_seq ?_
  refine den_region rfl ?_
  refine o_move rfl rfl guard_none (look_tmp rfl) (fun _ => rfl) ?_
  refine o_mkfunc rfl rfl guard_none (looks_cons (look_tmp rfl) (fun _ => rfl) (looks_cons (look_tmp rfl) (fun _ => rfl) (looks_cons (look_tmp rfl) (fun _ => rfl) (looks_nil)))) ?_
  refine o_weak (H' := [] ++ ([.obj true z1 0 (.dat (Rep.int .i64)) id_1, .obj true z2 0 (.dat Rep.str) act_2, .obj true z3 0 (.dat (Rep.int .i64)) a_3] ++ [])) (sub_pick [2, 1, 0] rfl rfl) ?_
  refine o_callU rfl rfl rfl rfl rfl callable20 (looks_cons (look_tmp rfl) (fun _ => rfl) (looks_cons (look_int rfl) (fun _ => rfl) (looks_cons (look_tmp rfl) (fun _ => rfl) (looks_nil)))) (.cons (.cons (.cons .nil))) (duty_Table_turn_v3_ok _ _ _ _ _ _ 2 id_1 act_2 a_3) (fun _ _ => wr_n) (fun z5α z4 => ?_)
  refine o_weak (H' := [.obj true z1 0 (.dat (Rep.int .i64)) id_1, .obj true z2 0 (.dat Rep.str) act_2, .obj true z3 0 (.dat (Rep.int .i64)) a_3]) (sub_pick [0, 1, 2] rfl rfl) ?_
  refine o_llen Try.underlying24 rfl rfl guard_none (look_tmp rfl) (fun _ => rfl) ?_
  refine o_assign rfl rfl guard_none (look_tmp rfl) (fun _ => rfl) ?_
  refine o_end ?_
  refine den_code_ret ?_
  exact dene_res (res1 rfl (rv_tmp rfl))

theorem duty_Table_turn_v4_ok (blk2_0 : Nat) (off2_0 : Nat) (state_1 : Int) (c_2_0 : Int) : FunOkI Try.prog 20 [⟨.nilp, (), true⟩, ⟨Rep.int .i64, state_1, true⟩, ⟨(Rep.clo 22 [⟨.addr, (blk2_0, off2_0), true⟩]), (), true⟩] [.obj false blk2_0 off2_0 (.dat (Rep.int .i64)) c_2_0] (duty_Table_turn_v4 state_1 c_2_0) ((T_duty_Instance_rep).slice) (fun (α : Unit) (y : (List T_duty_Instance)) => y) (fun α y => []) := by
  refine fun_okI Try.func20 rfl Try.ntmps20 rfl (all_cons rfl (all_cons rfl (all_cons rfl all_nil))) (fun w0 ok0 M => ?_)
  refine den_seq ?_
  refine den_region rfl ?_
  refine o_assign rfl rfl guard_none look_nil1 (fun _ => rfl) ?_
  refine o_end ?_
  refine den_seq ?_
  refine den_seq ?_
  refine den_region rfl ?_
  refine o_move rfl rfl guard_none (look_tmp rfl) (fun _ => rfl) ?_
  refine o_neql Try.underlying27 rfl rfl guard_none (look_tmp rfl) (fun _ => rfl) ?_
  refine o_end ?_
  refine den_condt (look_tmp rfl) ?_
  refine den_seq ?_
  refine den_region rfl ?_
  refine o_assign rfl rfl guard_none look_nil1 (fun _ => rfl) ?_
  refine o_end ?_
  refine den_code_ret ?_
  refine dene_ret ?_
  refine dene_weak (sub_nild (R := T_duty_Instance_rep) (s := 6) rfl) ?_
  exact dene_resI () (res1 rfl (rv_tmp rfl)) (fun _ _ _ k => ato_pick [] rfl rfl k)

theorem duty_Table_Expire_n0_ok  (a_1 : Int) : FunOk Try.prog 14 [⟨.nilp, (), true⟩, ⟨Rep.int .i64, a_1, true⟩] (duty_Table_Expire_n0 a_1) ((T_duty_Instance_rep).slice) := by
  refine fun_ok Try.func14 rfl Try.ntmps14 rfl (all_cons rfl (all_cons rfl all_nil)) (fun w0 ok0 => ?_)
  refine den_seq ?_
  refine den_region rfl ?_
  refine o_box rfl rfl (look_tmp rfl) rfl (fun z1 => ?_)
  refine o_assign rfl rfl guard_none look_nil1 (fun _ => rfl) ?_
  refine o_end ?_
  refine den_seq ?_
  refine den_region rfl ?_
  refine o_move rfl rfl guard_none (look_tmp rfl) (fun _ => rfl) ?_
  refine o_mkfunc rfl rfl guard_none (looks_cons (look_tmp rfl) (fun _ => rfl) (looks_nil)) ?_
  refine o_weak (H' := [] ++ ([.obj true z1 0 (.dat (Rep.int .i64)) a_1] ++ [])) (sub_pick [0] rfl rfl) ?_
  refine o_callU rfl rfl rfl rfl rfl callable20 (looks_cons (look_tmp rfl) (fun _ => rfl) (looks_cons (look_int rfl) (fun _ => rfl) (looks_cons (look_tmp rfl) (fun _ => rfl) (looks_nil)))) (.cons .nil) (duty_Table_turn_v4_ok _ _ 3 a_1) (fun _ _ => wr_n) (fun z3α z2 => ?_)
  refine o_weak (H' := [.obj true z1 0 (.dat (Rep.int .i64)) a_1]) (sub_pick [0] rfl rfl) ?_
  refine o_assign rfl rfl guard_none (look_tmp rfl) (fun _ => rfl) ?_
  refine o_end ?_
  refine den_code_ret ?_
  exact dene_res (res1 rfl (rv_tmp rfl))

theorem duty_Table_turn_v5_ok (blk2_0 : Nat) (off2_0 : Nat) (state_1 : Int) (c_2_0 : Int) : FunOkI Try.prog 20 [⟨.nilp, (), true⟩, ⟨Rep.int .i64, state_1, true⟩, ⟨(Rep.clo 23 [⟨.addr, (blk2_0, off2_0), true⟩]), (), true⟩] [.obj false blk2_0 off2_0 (.dat (Rep.int .i64)) c_2_0] (duty_Table_turn_v5 state_1 c_2_0) ((T_duty_Instance_rep).slice) (fun (α : Unit) (y : (List T_duty_Instance)) => y) (fun α y => []) := by
  refine fun_okI Try.func20 rfl Try.ntmps20 rfl (all_cons rfl (all_cons rfl (all_cons rfl all_nil))) (fun w0 ok0 M => ?_)
  refine den_seq ?_
  refine den_region rfl ?_
  refine o_assign rfl rfl guard_none look_nil1 (fun _ => rfl) ?_
  refine o_end ?_
  refine den_seq ?_
  refine den_seq ?_
  refine den_region rfl ?_
  refine o_move rfl rfl guard_none (look_tmp rfl) (fun _ => rfl) ?_
  refine o_neql Try.underlying27 rfl rfl guard_none (look_tmp rfl) (fun _ => rfl) ?_
  refine o_end ?_
  refine den_condt (look_tmp rfl) ?_
  refine den_seq ?_
  refine den_region rfl ?_
  refine o_assign rfl rfl guard_none look_nil1 (fun _ => rfl) ?_
  refine o_end ?_
  refine den_code_ret ?_
  refine dene_ret ?_
  refine dene_weak (sub_nild (R := T_duty_Instance_rep) (s := 6) rfl) ?_
  exact dene_resI () (res1 rfl (rv_tmp rfl)) (fun _ _ _ k => ato_pick [] rfl rfl k)

theorem duty_Table_Void_n0_ok  (id_1 : Int) : FunOk Try.prog 15 [⟨.nilp, (), true⟩, ⟨Rep.int .i64, id_1, true⟩] (duty_Table_Void_n0 id_1) (Rep.int .i64) := by
  refine fun_ok Try.func15 rfl Try.ntmps15 rfl (all_cons rfl (all_cons rfl all_nil)) (fun w0 ok0 => ?_)
  refine den_seq ?_
  refine den_region rfl ?_
  refine o_box rfl rfl (look_tmp rfl) rfl (fun z1 => ?_)
  refine o_assign rfl rfl guard_none (look_int rfl) (fun _ => rfl) ?_
  refine o_end ?_
  refine den_seq ?_
  refine den_region rfl ?_
  refine o_move rfl rfl guard_none (look_tmp rfl) (fun _ => rfl) ?_
  refine o_mkfunc rfl rfl guard_none (looks_cons (look_tmp rfl) (fun _ => rfl) (looks_nil)) ?_
  refine o_weak (H' := [] ++ ([.obj true z1 0 (.dat (Rep.int .i64)) id_1] ++ [])) (sub_pick [0] rfl rfl) ?_
  refine o_callU rfl rfl rfl rfl rfl callable20 (looks_cons (look_tmp rfl) (fun _ => rfl) (looks_cons (look_int rfl) (fun _ => rfl) (looks_cons (look_tmp rfl) (fun _ => rfl) (looks_nil)))) (.cons .nil) (duty_Table_turn_v5_ok _ _ 4 id_1) (fun _ _ => wr_n) (fun z3α z2 => ?_)
  refine o_weak (H' := [.obj true z1 0 (.dat (Rep.int .i64)) id_1]) (sub_pick [0] rfl rfl) ?_
  refine o_llen Try.underlying24 rfl rfl guard_none (look_tmp rfl) (fun _ => rfl) ?_
  refine o_assign rfl rfl guard_none (look_tmp rfl) (fun _ => rfl) ?_
  refine o_end ?_
  refine den_code_ret ?_
  exact dene_res (res1 rfl (rv_tmp rfl))

theorem duty_Table_All_n0_ok   : FunOk Try.prog 9 [⟨.nilp, (), true⟩] (duty_Table_All_n0) ((T_duty_Instance_rep).slice) := by
  refine fun_ok Try.func9 rfl Try.ntmps9 rfl (all_cons rfl all_nil) (fun w0 ok0 => ?_)
  refine den_seq ?_
  refine den_region rfl ?_
  refine o_assign rfl rfl guard_none look_nil1 (fun _ => rfl) ?_
  refine o_end ?_
  refine den_seq ?_
  refine den_seq ?_
  refine den_region rfl ?_
  refine o_move rfl rfl guard_none (look_tmp rfl) (fun _ => rfl) ?_
  refine o_neql Try.underlying27 rfl rfl guard_none (look_tmp rfl) (fun _ => rfl) ?_
  refine o_end ?_
  refine den_condt (look_tmp rfl) ?_
  refine den_seq ?_
  refine den_region rfl ?_
  refine o_assign rfl rfl guard_none look_nil1 (fun _ => rfl) ?_
  refine o_end ?_
  refine den_code_ret ?_
  refine dene_ret ?_
  refine dene_weak (sub_nild (R := T_duty_Instance_rep) (s := 2) rfl) ?_
  exact dene_res (res1 rfl (rv_tmp rfl))

theorem duty_Table_Pending_n0_ok  (id_1 : Int) : FunOk Try.prog 16 [⟨.nilp, (), true⟩, ⟨Rep.int .i64, id_1, true⟩] (duty_Table_Pending_n0 id_1) (Rep.int .i64) := by
  refine fun_ok Try.func16 rfl Try.ntmps16 rfl (all_cons rfl (all_cons rfl all_nil)) (fun w0 ok0 => ?_)
  refine den_seq ?_
  refine den_region rfl ?_
  refine o_assign rfl rfl guard_none (look_int rfl) (fun _ => rfl) ?_
  refine o_end ?_
  refine den_seq ?_
  refine den_region rfl ?_
  refine o_assign rfl rfl guard_none (look_int rfl) (fun _ => rfl) ?_
  refine o_end ?_
  refine den_seq ?_
  refine den_seq ?_
  refine den_region rfl ?_
  refine o_move rfl rfl guard_none (look_tmp rfl) (fun _ => rfl) ?_
  refine o_nneq Try.underlying27 rfl rfl guard_none (look_tmp rfl) (fun _ => rfl) ?_
  refine o_end ?_
  refine den_condf (look_tmp rfl) ?_
  refine den_skip ?_
  refine den_seq ?_
  refine den_region rfl ?_
  refine o_move rfl rfl guard_none (look_tmp rfl) (fun _ => rfl) ?_
  refine o_assign rfl rfl guard_none (look_tmp rfl) (fun _ => rfl) ?_
  refine o_end ?_
  refine den_code_ret ?_
  exact dene_res (res1 rfl (rv_tmp rfl))

theorem duty_Table_Clone_n0_ok   : FunOk Try.prog 10 [⟨.nilp, (), true⟩] (duty_Table_Clone_n0) (Rep.nilp) := by
  refine fun_ok Try.func10 rfl Try.ntmps10 rfl (all_cons rfl all_nil) (fun w0 ok0 => ?_)
  refine den_seq ?_
  refine den_region rfl ?_
  refine o_assign rfl rfl guard_none look_nilp (fun _ => rfl) ?_
  refine o_end ?_
  refine den_seq ?_
  refine den_seq ?_
  refine den_region rfl ?_
  refine o_move rfl rfl guard_none (look_tmp rfl) (fun _ => rfl) ?_
  refine o_neql Try.underlying27 rfl rfl guard_none (look_tmp rfl) (fun _ => rfl) ?_
  refine o_end ?_
  refine den_condt (look_tmp rfl) ?_
  refine den_seq ?_
  refine den_region rfl ?_
  refine o_assign rfl rfl guard_none look_nilp (fun _ => rfl) ?_
  refine o_end ?_
  refine den_code_ret ?_
  refine dene_ret ?_
  exact dene_res (res1 rfl (rv_tmp rfl))

theorem law21_DutyClones_ok  (a_0 : (List T_law21_Op)) (b_1 : (List T_law21_Op)) (c_2 : (List T_law21_Op)) : FunOk Try.prog 5 [⟨(T_law21_Op_rep).slice, a_0, true⟩, ⟨(T_law21_Op_rep).slice, b_1, true⟩, ⟨(T_law21_Op_rep).slice, c_2, true⟩] (law21_DutyClones a_0 b_1 c_2) (Rep.bool) := by
  refine fun_ok Try.func5 rfl Try.ntmps5 rfl (all_cons rfl (all_cons rfl (all_cons rfl all_nil))) (fun w0 ok0 => ?_)
  refine den_seq ?_
  refine den_region rfl ?_
  refine o_assign rfl rfl guard_none look_bool (fun _ => rfl) ?_
  refine o_end ?_
  refine den_seq ?_
  refine den_seq ?_
  refine den_region rfl ?_
  refine o_call rfl rfl rfl callable6 (looks_nil) (law21_alive_ok) (fun z1 => ?_)
  refine o_not rfl rfl guard_none (look_tmp rfl) (fun _ => rfl) ?_
  refine o_end ?_
  refine den_cond (look_tmp rfl) ?_ ?_
  · refine den_seq ?_
    refine den_region rfl ?_
    refine o_assign rfl rfl guard_none look_bool (fun _ => rfl) ?_
    refine o_end ?_
    refine den_code_ret ?_
    refine dene_ret ?_
    exact dene_res (res1 rfl (rv_tmp rfl))
  · refine den_skip ?_
    refine den_seq ?_
    refine den_region rfl ?_
    refine o_weak (sub_nilvec (R := T_duty_Instance_rep) rfl) ?_
    refine o_weak (sub_nilvec (R := Rep.int .i64) rfl) ?_
    refine o_build (R := T_duty_Table_repo0 (Value.slice none 0 0) (Value.slice none 0 0)) (f := T_duty_Table_tupo) (y := (⟨[], []⟩ : T_duty_Table)) shape30 rfl rfl rfl rfl guard_none (bld_zero (z_isv rfl) (bld_zero (z_isv rfl) (bld_nil))) ?_
    refine o_box rfl rfl (look_tmp rfl) rfl (fun z2 => ?_)
    refine o_assign rfl rfl guard_none (look_tmp rfl) (fun _ => rfl) ?_
    refine o_end ?_
    refine den_seq ?_
    refine den_region rfl ?_
    refine o_move rfl rfl guard_none (look_tmp rfl) (fun _ => rfl) ?_
    refine o_move rfl rfl guard_none (look_tmp rfl) (fun _ => rfl) ?_
    refine o_call rfl rfl rfl callable8 (looks_cons (look_tmp rfl) (fun _ => rfl) (looks_nil)) (law21_few_ok _) (fun z3 => ?_)
    refine o_weak (H' := [.obj true z2 0 (.dat (T_duty_Table_repo (Value.slice none 0 0) (Value.slice none 0 0))) (⟨[], []⟩ : T_duty_Table), .vec (Value.slice none 0 0) (Rep.int .i64) ([] : List Int), .vec (Value.slice none 0 0) (T_duty_Instance_rep) ([] : List T_duty_Instance)]) (sub_pick [0, 1, 2] rfl rfl) ?_
    refine o_weak (sub_redat ({ ({ (⟨[], []⟩ : T_duty_Table) with all := ([] : List T_duty_Instance) }) with wait := ([] : List Int) }) (fun _ _ _ h => h)) ?_
    refine o_weak (H' := [.vec (Value.slice none 0 0) (T_duty_Instance_rep) ([] : List T_duty_Instance), .vec (Value.slice none 0 0) (Rep.int .i64) ([] : List Int), .obj true z2 0 (.dat (T_duty_Table_repo (Value.slice none 0 0) (Value.slice none 0 0))) ({ ({ (⟨[], []⟩ : T_duty_Table) with all := ([] : List T_duty_Instance) }) with wait := ([] : List Int) })] ++ ([] ++ [])) (sub_pick [2, 1, 0] rfl rfl) ?_
    refine o_callU rfl rfl rfl rfl rfl callable7 (looks_cons (look_tmp rfl) (fun _ => rfl) (looks_cons (look_nild (R := T_duty_Instance_rep)) (fun _ => rfl) (looks_cons (look_tmp rfl) (fun _ => rfl) (looks_nil)))) .nil (law21_run_ok _ _ _ _ ({ ({ (⟨[], []⟩ : T_duty_Table) with all := ([] : List T_duty_Instance) }) with wait := ([] : List Int) }) ([] : (List T_duty_Instance)) z3) (fun _ _ => (wr_v (wr_v (wr_c wr_n)))) (fun z5α z4 => ?_)
    obtain ⟨z6, z7⟩ := z5α
    refine o_weak (H' := [.vec z6 (T_duty_Instance_rep) z4.2.2.all, .vec z7 (Rep.int .i64) z4.2.2.wait, .obj true z2 0 (.dat (T_duty_Table_repo z6 z7)) z4.2.2]) (sub_pick [0, 1, 2] rfl rfl) ?_
    refine o_move rfl rfl guard_none (look_tmp rfl) (fun _ => rfl) ?_
    refine o_fst rfl rfl guard_none (look_tmp rfl) (fun _ => rfl) ?_
    refine o_snd rfl rfl guard_none (look_tmp rfl) (fun _ => rfl) ?_
    refine o_assign rfl rfl guard_none (look_tmp rfl) (fun _ => rfl) ?_
    refine o_assign rfl rfl guard_none (look_tmp rfl) (fun _ => rfl) ?_
    refine o_end ?_
    refine den_seq ?_
    refine den_region rfl ?_
    refine o_move rfl rfl guard_none (look_tmp rfl) (fun _ => rfl) ?_
    refine o_weak (H' := [] ++ ([.vec z6 (T_duty_Instance_rep) z4.2.2.all, .vec z7 (Rep.int .i64) z4.2.2.wait, .obj true z2 0 (.dat (T_duty_Table_repo z6 z7)) z4.2.2] ++ [])) (sub_pick [0, 1, 2] rfl rfl) ?_
    refine o_callU rfl rfl rfl rfl rfl callable10 (looks_cons (look_tmp rfl) (fun _ => rfl) (looks_nil)) (.vec (.vec (.cons .nil))) (duty_Table_Clone_ok _ _ _ _ z4.2.2) (fun _ _ => (wr_v (wr_v (wr_c wr_n)))) (fun z9α z8 => ?_)
    obtain ⟨⟨z10, z11⟩, z12, z13⟩ := z9α
    refine o_weak (H' := [.vec z12 (T_duty_Instance_rep) z8.all, .vec z13 (Rep.int .i64) z8.wait, .obj true z10 z11 (.dat (T_duty_Table_repo z12 z13)) z8, .vec z6 (T_duty_Instance_rep) z4.2.2.all, .vec z7 (Rep.int .i64) z4.2.2.wait, .obj true z2 0 (.dat (T_duty_Table_repo z6 z7)) z4.2.2]) (sub_pick [0, 1, 2, 3, 4, 5] rfl rfl) ?_
    refine o_assign rfl rfl guard_none (look_tmp rfl) (fun _ => rfl) ?_
    refine o_end ?_
    refine den_seq ?_
    refine den_region rfl ?_
    refine o_move rfl rfl guard_none (look_tmp rfl) (fun _ => rfl) ?_
    refine o_move rfl rfl guard_none (look_tmp rfl) (fun _ => rfl) ?_
    refine o_move rfl rfl guard_none (look_tmp rfl) (fun _ => rfl) ?_
    refine o_call rfl rfl rfl callable8 (looks_cons (look_tmp rfl) (fun _ => rfl) (looks_nil)) (law21_few_ok _) (fun z14 => ?_)
    refine o_weak (H' := [.vec z6 (T_duty_Instance_rep) z4.2.2.all, .vec z7 (Rep.int .i64) z4.2.2.wait, .obj true z2 0 (.dat (T_duty_Table_repo z6 z7)) z4.2.2] ++ ([] ++ [.vec z12 (T_duty_Instance_rep) z8.all, .vec z13 (Rep.int .i64) z8.wait, .obj true z10 z11 (.dat (T_duty_Table_repo z12 z13)) z8])) (sub_pick [3, 4, 5, 0, 1, 2] rfl rfl) ?_
    refine o_callU rfl rfl rfl rfl rfl callable7 (looks_cons (look_tmp rfl) (fun _ => rfl) (looks_cons (look_tmp rfl) (fun _ => rfl) (looks_cons (look_tmp rfl) (fun _ => rfl) (looks_nil)))) .nil (law21_run_ok _ _ _ _ z4.2.2 z4.1 z14) (fun _ _ => (wr_v (wr_v (wr_c wr_n)))) (fun z16α z15 => ?_)
    obtain ⟨z17, z18⟩ := z16α
    refine o_weak (H' := [.vec z17 (T_duty_Instance_rep) z15.2.2.all, .vec z18 (Rep.int .i64) z15.2.2.wait, .obj true z2 0 (.dat (T_duty_Table_repo z17 z18)) z15.2.2, .vec z12 (T_duty_Instance_rep) z8.all, .vec z13 (Rep.int .i64) z8.wait, .obj true z10 z11 (.dat (T_duty_Table_repo z12 z13)) z8]) (sub_pick [0, 1, 2, 3, 4, 5] rfl rfl) ?_
    refine o_move rfl rfl guard_none (look_tmp rfl) (fun _ => rfl) ?_
    refine o_fst rfl rfl guard_none (look_tmp rfl) (fun _ => rfl) ?_
    refine o_snd rfl rfl guard_none (look_tmp rfl) (fun _ => rfl) ?_
    refine o_assign rfl rfl guard_none (look_tmp rfl) (fun _ => rfl) ?_
    refine o_assign rfl rfl guard_none (look_tmp rfl) (fun _ => rfl) ?_
    refine o_end ?_
    refine den_seq ?_
    refine den_region rfl ?_
    refine o_move rfl rfl guard_none (look_tmp rfl) (fun _ => rfl) ?_
    refine o_move rfl rfl guard_none (look_tmp rfl) (fun _ => rfl) ?_
    refine o_move rfl rfl guard_none (look_tmp rfl) (fun _ => rfl) ?_
    refine o_call rfl rfl rfl callable8 (looks_cons (look_tmp rfl) (fun _ => rfl) (looks_nil)) (law21_few_ok _) (fun z19 => ?_)
    refine o_weak (H' := [.vec z12 (T_duty_Instance_rep) z8.all, .vec z13 (Rep.int .i64) z8.wait, .obj true z10 z11 (.dat (T_duty_Table_repo z12 z13)) z8] ++ ([] ++ [.vec z17 (T_duty_Instance_rep) z15.2.2.all, .vec z18 (Rep.int .i64) z15.2.2.wait, .obj true z2 0 (.dat (T_duty_Table_repo z17 z18)) z15.2.2])) (sub_pick [3, 4, 5, 0, 1, 2] rfl rfl) ?_
    refine o_callU rfl rfl rfl rfl rfl callable7 (looks_cons (look_tmp rfl) (fun _ => rfl) (looks_cons (look_tmp rfl) (fun _ => rfl) (looks_cons (look_tmp rfl) (fun _ => rfl) (looks_nil)))) .nil (law21_run_ok _ _ _ _ z8 z4.1 z19) (fun _ _ => (wr_v (wr_v (wr_c wr_n)))) (fun z21α z20 => ?_)
    obtain ⟨z22, z23⟩ := z21α
    refine o_weak (H' := [.vec z22 (T_duty_Instance_rep) z20.2.2.all, .vec z23 (Rep.int .i64) z20.2.2.wait, .obj true z10 z11 (.dat (T_duty_Table_repo z22 z23)) z20.2.2, .vec z17 (T_duty_Instance_rep) z15.2.2.all, .vec z18 (Rep.int .i64) z15.2.2.wait, .obj true z2 0 (.dat (T_duty_Table_repo z17 z18)) z15.2.2]) (sub_pick [0, 1, 2, 3, 4, 5] rfl rfl) ?_
    refine o_move rfl rfl guard_none (look_tmp rfl) (fun _ => rfl) ?_
    refine o_fst rfl rfl guard_none (look_tmp rfl) (fun _ => rfl) ?_
    refine o_snd rfl rfl guard_none (look_tmp rfl) (fun _ => rfl) ?_
    refine o_assign rfl rfl guard_none (look_tmp rfl) (fun _ => rfl) ?_
    refine o_assign rfl rfl guard_none (look_tmp rfl) (fun _ => rfl) ?_
    refine o_end ?_
    refine den_seq ?_
    refine den_region rfl ?_
    refine o_assign rfl rfl guard_none look_nilp (fun _ => rfl) ?_
    refine o_end ?_
    refine den_seq ?_
    refine den_region rfl ?_
    refine o_move rfl rfl guard_none (look_tmp rfl) (fun _ => rfl) ?_
    refine o_move rfl rfl guard_none (look_tmp rfl) (fun _ => rfl) ?_
    refine o_move rfl rfl (guard_some rfl rfl rfl) (look_tmp rfl) (fun _ => rfl) ?_
    refine o_pick rfl rfl guard_none (look_tmp rfl) (look_tmp rfl) look_bool (fun _ => rfl) (fun h1 h2 => pick_t ((fun _ => rfl) h1) h2) (fun _ _ => rfl) ?_
    refine o_move rfl rfl guard_none (look_tmp rfl) (fun _ => rfl) ?_
    refine o_move rfl rfl (guard_some rfl rfl rfl) (look_tmp rfl) (fun _ => rfl) ?_
    refine o_pick rfl rfl guard_none (look_tmp rfl) (look_tmp rfl) look_bool (fun _ => rfl) (fun h1 h2 => pick_t ((fun _ => rfl) h1) h2) (fun _ _ => rfl) ?_
    refine o_move rfl rfl guard_none (look_tmp rfl) (fun _ => rfl) ?_
    refine o_move rfl rfl (guard_some rfl rfl rfl) (look_tmp rfl) (fun _ => rfl) ?_
    refine o_weak (H' := [] ++ ([.vec z17 (T_duty_Instance_rep) z15.2.2.all, .vec z18 (Rep.int .i64) z15.2.2.wait, .obj true z2 0 (.dat (T_duty_Table_repo z17 z18)) z15.2.2] ++ [.vec z22 (T_duty_Instance_rep) z20.2.2.all, .vec z23 (Rep.int .i64) z20.2.2.wait, .obj true z10 z11 (.dat (T_duty_Table_repo z22 z23)) z20.2.2])) (sub_pick [3, 4, 5, 0, 1, 2] rfl rfl) ?_
    refine o_callX (its := []) ([] : (List T_duty_Instance)) (Value.slice none 0 0) rfl rfl rfl rfl (guard_some rfl rfl rfl) callable9 (looks_cons (look_tmp rfl) (fun h => h) (looks_nil)) (.vec (.vec (.cons .nil))) (fun_frozen (duty_Table_All_ok _ _ _ _ z15.2.2)) (fun _ _ => wr_n) ?_ (fun z25α z24 => ?_)
    · exact fun _ => rfl
    refine o_weak (H' := [.vec z17 (T_duty_Instance_rep) z15.2.2.all, .vec z18 (Rep.int .i64) z15.2.2.wait, .obj true z2 0 (.dat (T_duty_Table_repo z17 z18)) z15.2.2, .vec z22 (T_duty_Instance_rep) z20.2.2.all, .vec z23 (Rep.int .i64) z20.2.2.wait, .obj true z10 z11 (.dat (T_duty_Table_repo z22 z23)) z20.2.2]) (sub_pick [0, 1, 2, 3, 4, 5] rfl rfl) ?_
    refine o_move rfl rfl (guard_some rfl rfl rfl) (look_tmp rfl) (fun _ => rfl) ?_
    refine o_callg rfl rfl rfl (guard_some rfl rfl rfl) callable11 (looks_cons (look_tmp rfl) (fun h => h) (looks_cons (look_tmp rfl) (fun h => h) (looks_nil))) (law21_same_ok _ _) (fun z27 => ?_)
    refine o_pick rfl rfl guard_none (look_tmp rfl) (look_tmp rfl) look_bool (fun _ => rfl) (fun h1 h2 => pick_t ((fun _ => rfl) h1) h2) (fun _ _ => rfl) ?_
    refine o_move rfl rfl guard_none (look_tmp rfl) (fun _ => rfl) ?_
    refine o_move rfl rfl (guard_some rfl rfl rfl) (look_tmp rfl) (fun _ => rfl) ?_
    refine o_weak (H' := [] ++ ([.vec z22 (T_duty_Instance_rep) z20.2.2.all, .vec z23 (Rep.int .i64) z20.2.2.wait, .obj true z10 z11 (.dat (T_duty_Table_repo z22 z23)) z20.2.2] ++ [.vec z17 (T_duty_Instance_rep) z15.2.2.all, .vec z18 (Rep.int .i64) z15.2.2.wait, .obj true z2 0 (.dat (T_duty_Table_repo z17 z18)) z15.2.2])) (sub_pick [3, 4, 5, 0, 1, 2] rfl rfl) ?_
    refine o_callX (its := []) ([] : (List T_duty_Instance)) (Value.slice none 0 0) rfl rfl rfl rfl (guard_some rfl rfl rfl) callable9 (looks_cons (look_tmp rfl) (fun h => h) (looks_nil)) (.vec (.vec (.cons .nil))) (fun_frozen (duty_Table_All_ok _ _ _ _ z20.2.2)) (fun _ _ => wr_n) ?_ (fun z29α z28 => ?_)
    · exact fun _ => rfl
    refine o_weak (H' := [.vec z22 (T_duty_Instance_rep) z20.2.2.all, .vec z23 (Rep.int .i64) z20.2.2.wait, .obj true z10 z11 (.dat (T_duty_Table_repo z22 z23)) z20.2.2, .vec z17 (T_duty_Instance_rep) z15.2.2.all, .vec z18 (Rep.int .i64) z15.2.2.wait, .obj true z2 0 (.dat (T_duty_Table_repo z17 z18)) z15.2.2]) (sub_pick [0, 1, 2, 3, 4, 5] rfl rfl) ?_
    refine o_move rfl rfl (guard_some rfl rfl rfl) (look_tmp rfl) (fun _ => rfl) ?_
    refine o_callg rfl rfl rfl (guard_some rfl rfl rfl) callable11 (looks_cons (look_tmp rfl) (fun h => h) (looks_cons (look_tmp rfl) (fun h => h) (looks_nil))) (law21_same_ok _ _) (fun z31 => ?_)
    refine o_pick rfl rfl guard_none (look_tmp rfl) (look_tmp rfl) look_bool (fun _ => rfl) (fun h1 h2 => pick_t ((fun _ => rfl) h1) h2) (fun _ _ => rfl) ?_
    refine o_move rfl rfl guard_none (look_tmp rfl) (fun _ => rfl) ?_
    refine o_move rfl rfl (guard_some rfl rfl rfl) (look_tmp rfl) (fun _ => rfl) ?_
    refine o_build (R := T_duty_Instance_rep0) (f := T_duty_Instance_tup) (y := (⟨0, 0, [], 0, false, 0⟩ : T_duty_Instance)) shape35 rfl rfl rfl rfl (guard_some rfl rfl rfl) (bld_zero (z_int rfl) (bld_zero (z_int rfl) (bld_zero (z_str rfl) (bld_zero (z_int rfl) (bld_zero (z_bool rfl) (bld_zero (z_int rfl) (bld_nil))))))) ?_
    refine o_callg rfl rfl rfl (guard_some rfl rfl rfl) callable12 (looks_cons (look_tmp rfl) (fun h => h) (looks_cons (look_tmp rfl) (fun h => h) (looks_nil))) (duty_Table_Add_n0_ok _) (fun z32 => ?_)
    refine o_eql rfl rfl (guard_some rfl rfl rfl) (look_tmp rfl) (look_int rfl) (fun h => h) (fun _ => rfl) ?_
    refine o_pick rfl rfl guard_none (look_tmp rfl) (look_tmp rfl) look_bool (fun _ => rfl) (fun h1 h2 => pick_t ((fun _ => rfl) h1) h2) (fun _ _ => rfl) ?_
    refine o_move rfl rfl guard_none (look_tmp rfl) (fun _ => rfl) ?_
    refine o_move rfl rfl (guard_some rfl rfl rfl) (look_tmp rfl) (fun _ => rfl) ?_
    refine o_callg rfl rfl rfl (guard_some rfl rfl rfl) callable13 (looks_cons (look_tmp rfl) (fun h => h) (looks_cons (look_int rfl) (fun _ => rfl) (looks_cons (look_str (l := []) rfl (by decide)) (fun _ => rfl) (looks_cons (look_int rfl) (fun _ => rfl) (looks_nil))))) (duty_Table_Fulfil_n0_ok _ _ _) (fun z33 => ?_)
    refine o_eql rfl rfl (guard_some rfl rfl rfl) (look_tmp rfl) (look_int rfl) (fun h => h) (fun _ => rfl) ?_
    refine o_pick rfl rfl guard_none (look_tmp rfl) (look_tmp rfl) look_bool (fun _ => rfl) (fun h1 h2 => pick_t ((fun _ => rfl) h1) h2) (fun _ _ => rfl) ?_
    refine o_move rfl rfl guard_none (look_tmp rfl) (fun _ => rfl) ?_
    refine o_move rfl rfl (guard_some rfl rfl rfl) (look_tmp rfl) (fun _ => rfl) ?_
    refine o_callg rfl rfl rfl (guard_some rfl rfl rfl) callable14 (looks_cons (look_tmp rfl) (fun h => h) (looks_cons (look_int rfl) (fun _ => rfl) (looks_nil))) (duty_Table_Expire_n0_ok _) (fun z34 => ?_)
    refine o_llen Try.underlying24 rfl rfl (guard_some rfl rfl rfl) (look_tmp rfl) (fun h => h) ?_
    refine o_eql rfl rfl (guard_some rfl rfl rfl) (look_tmp rfl) (look_int rfl) (fun h => h) (fun _ => rfl) ?_
    refine o_pick rfl rfl guard_none (look_tmp rfl) (look_tmp rfl) look_bool (fun _ => rfl) (fun h1 h2 => pick_t ((fun _ => rfl) h1) h2) (fun _ _ => rfl) ?_
    refine o_move rfl rfl guard_none (look_tmp rfl) (fun _ => rfl) ?_
    refine o_move rfl rfl (guard_some rfl rfl rfl) (look_tmp rfl) (fun _ => rfl) ?_
    refine o_callg rfl rfl rfl (guard_some rfl rfl rfl) callable15 (looks_cons (look_tmp rfl) (fun h => h) (looks_cons (look_int rfl) (fun _ => rfl) (looks_nil))) (duty_Table_Void_n0_ok _) (fun z35 => ?_)
    refine o_eql rfl rfl (guard_some rfl rfl rfl) (look_tmp rfl) (look_int rfl) (fun h => h) (fun _ => rfl) ?_
    refine o_pick rfl rfl guard_none (look_tmp rfl) (look_tmp rfl) look_bool (fun _ => rfl) (fun h1 h2 => pick_t ((fun _ => rfl) h1) h2) (fun _ _ => rfl) ?_
    refine o_move rfl rfl guard_none (look_tmp rfl) (fun _ => rfl) ?_
    refine o_move rfl rfl (guard_some rfl rfl rfl) (look_tmp rfl) (fun _ => rfl) ?_
    refine o_callg rfl rfl rfl (guard_some rfl rfl rfl) callable9 (looks_cons (look_tmp rfl) (fun h => h) (looks_nil)) (duty_Table_All_n0_ok) (fun z36 => ?_)
    refine o_llen Try.underlying24 rfl rfl (guard_some rfl rfl rfl) (look_tmp rfl) (fun h => h) ?_
    refine o_eql rfl rfl (guard_some rfl rfl rfl) (look_tmp rfl) (look_int rfl) (fun h => h) (fun _ => rfl) ?_
    refine o_pick rfl rfl guard_none (look_tmp rfl) (look_tmp rfl) look_bool (fun _ => rfl) (fun h1 h2 => pick_t ((fun _ => rfl) h1) h2) (fun _ _ => rfl) ?_
    refine o_move rfl rfl guard_none (look_tmp rfl) (fun _ => rfl) ?_
    refine o_move rfl rfl (guard_some rfl rfl rfl) (look_tmp rfl) (fun _ => rfl) ?_
    refine o_callg rfl rfl rfl (guard_some rfl rfl rfl) callable16 (looks_cons (look_tmp rfl) (fun h => h) (looks_cons (look_int rfl) (fun _ => rfl) (looks_nil))) (duty_Table_Pending_n0_ok _) (fun z37 => ?_)
    refine o_eql rfl rfl (guard_some rfl rfl rfl) (look_tmp rfl) (look_int rfl) (fun h => h) (fun _ => rfl) ?_
    refine o_pick rfl rfl guard_none (look_tmp rfl) (look_tmp rfl) look_bool (fun _ => rfl) (fun h1 h2 => pick_t ((fun _ => rfl) h1) h2) (fun _ _ => rfl) ?_
    refine o_move rfl rfl guard_none (look_tmp rfl) (fun _ => rfl) ?_
    refine o_move rfl rfl (guard_some rfl rfl rfl) (look_tmp rfl) (fun _ => rfl) ?_
    refine o_callg rfl rfl rfl (guard_some rfl rfl rfl) callable10 (looks_cons (look_tmp rfl) (fun h => h) (looks_nil)) (duty_Table_Clone_n0_ok) (fun z38 => ?_)
    refine o_neql Try.underlying27 rfl rfl (guard_some rfl rfl rfl) (look_tmp rfl) (fun h => h) ?_
    refine o_pick rfl rfl guard_none (look_tmp rfl) (look_tmp rfl) look_bool (fun _ => rfl) (fun h1 h2 => pick_t ((fun _ => rfl) h1) h2) (fun _ _ => rfl) ?_
    refine o_assign rfl rfl guard_none (look_tmp rfl) (fun _ => rfl) ?_
    refine o_lt (fun z39 => ?_)
    refine o_end ?_
    refine den_code_ret ?_
    exact dene_res (res1 rfl (rv_tmp rfl))

end Go.Proofs.Ytohhpphfflddnaa.M
