/- That the Go functions answer as the plain ones: written by gen2.py. -/
import Derived.Test.YtlikbfnaihccmaaOks1
namespace Go.Proofs.Ytlikbfnaihccmaa.M
open Go.Eng Go
set_option linter.unusedVariables false

theorem law16_few_ok  (l_0 : (List T_law16_Step)) : FunOk Try.prog 29 [⟨(T_law16_Step_rep).slice, l_0, true⟩] (law16_few l_0) ((T_law16_Step_rep).slice) := by
  refine fun_ok Try.func29 rfl Try.ntmps29 rfl (all_cons rfl all_nil) (fun w0 ok0 => ?_)
  refine den_seq ?_
  refine den_region rfl ?_
  refine o_assign rfl rfl guard_none look_nil1 (fun _ => rfl) ?_
  refine o_end ?_
  refine den_seq ?_
  refine den_seq ?_
  refine den_region rfl ?_
  refine o_move rfl rfl guard_none (look_tmp rfl) (fun _ => rfl) ?_
  refine o_llen Try.underlying55 rfl rfl guard_none (look_tmp rfl) (fun _ => rfl) ?_
  refine o_gtr rfl rfl guard_none (look_tmp rfl) (look_int rfl) (fun _ => rfl) (fun _ => rfl) ?_
  refine o_end ?_
  refine den_cond (look_tmp rfl) ?_ ?_
  · refine den_seq ?_
    refine den_region rfl ?_
    refine o_move rfl rfl guard_none (look_tmp rfl) (fun _ => rfl) ?_
    refine o_lsub Try.underlying55 type67 rfl rfl (look_tmp rfl) rfl bnd_none (bnd_some (look_int rfl) (fun _ => rfl)) (fun z1 => ?_)
    refine o_assign rfl rfl guard_none (look_tmp rfl) (fun _ => rfl) ?_
    refine o_end ?_
    refine den_code_ret ?_
    refine dene_ret ?_
    exact dene_res (res1 rfl (rv_tmp rfl))
  · refine den_skip ?_
    refine den_seq ?_
    refine den_region rfl ?_
    refine o_move rfl rfl guard_none (look_tmp rfl) (fun _ => rfl) ?_
    refine o_assign rfl rfl guard_none (look_tmp rfl) (fun _ => rfl) ?_
    refine o_end ?_
    refine den_code_ret ?_
    exact dene_res (res1 rfl (rv_tmp rfl))

theorem deque_Deque_All_ok (blk0 : Nat) (off0 : Nat) (val0_0 : Value) (d_0 : T_deque_Deque) : FunOkI Try.prog 50 [⟨.addr, (blk0, off0), true⟩] [.rvec val0_0 (T_deque_Cell_rep) d_0.cells, .obj false blk0 off0 (.dat (T_deque_Deque_repo val0_0)) d_0] (deque_Deque_All d_0) (Rep.val1) (fun (α : Value) (y : (List T_deque_Cell)) => α) (fun α y => [.vec α (T_deque_Cell_rep) y]) := by
  refine fun_okI Try.func50 rfl Try.ntmps50 rfl (all_cons rfl all_nil) (fun w0 ok0 M => ?_)
  refine den_seq ?_
  refine den_region rfl ?_
  refine o_assign rfl rfl guard_none look_nil1 (fun _ => rfl) ?_
  refine o_end ?_
  refine den_seq ?_
  refine den_region rfl ?_
  refine o_move rfl rfl guard_none (look_tmp rfl) (fun _ => rfl) ?_
  refine o_weak (H' := [] ++ ([.rvec val0_0 (T_deque_Cell_rep) d_0.cells, .obj false blk0 off0 (.dat (T_deque_Deque_repo val0_0)) d_0] ++ [])) (sub_pick [0, 1] rfl rfl) ?_
  refine o_callU rfl rfl rfl rfl rfl callable63 (looks_cons (look_tmp rfl) (fun _ => rfl) (looks_nil)) (.rvec (.cons .nil)) (deque_Deque_in_ok _ _ _ d_0) (fun _ _ => wr_n) (fun z2α z1 => ?_)
  refine o_weak (H' := [.rvec val0_0 (T_deque_Cell_rep) d_0.cells, .obj false blk0 off0 (.dat (T_deque_Deque_repo val0_0)) d_0]) (sub_pick [0, 1] rfl rfl) ?_
  refine o_chk (fun hb_z1_0 => ?_)
  refine o_callL (zs := fun y => y) 0 rfl rfl rfl rfl callable65 (lookl_view (p := (z1.1, z1.2)) (.inr rfl) hb_z1_0 (look_tmp rfl)) (Nat.blt_eq.mp rfl) (fl_iso (fl_cons fl_int (fl_cons fl_int fl_nil))) (slices_Clone_deque_Cell_deque_Cell_ok _) (fun z4α z3 => ?_)
  refine o_assign rfl rfl guard_none (look_tmp rfl) (fun _ => rfl) ?_
  refine o_end ?_
  refine den_code_ret ?_
  exact dene_resI z4α (res1 rfl (rv_tmp rfl)) (fun _ _ _ k => ato_pick [0] rfl rfl k)

theorem deque_Deque_Clone_ok (blk0 : Nat) (off0 : Nat) (val0_0 : Value) (d_0 : T_deque_Deque) : FunOkI Try.prog 20 [⟨.addr, (blk0, off0), true⟩] [.rvec val0_0 (T_deque_Cell_rep) d_0.cells, .obj false blk0 off0 (.dat (T_deque_Deque_repo val0_0)) d_0] (deque_Deque_Clone d_0) (Rep.addr) (fun (α : ((Nat × Nat) × Value)) (y : T_deque_Deque) => α.1) (fun α y => [.vec α.2 (T_deque_Cell_rep) y.cells, .obj true α.1.1 α.1.2 (.dat (T_deque_Deque_repo α.2)) y]) := by
  refine fun_okI Try.func20 rfl Try.ntmps20 rfl (all_cons rfl all_nil) (fun w0 ok0 M => ?_)
  refine den_seq ?_
  refine den_region rfl ?_
  refine o_assign rfl rfl guard_none look_nilp (fun _ => rfl) ?_
  refine o_end ?_
  refine den_seq ?_
  refine den_seq ?_
  refine den_region rfl ?_
  refine o_move rfl rfl guard_none (look_tmp rfl) (fun _ => rfl) ?_
  refine o_peql Try.underlying27 rfl rfl guard_none (look_tmp rfl) (fun _ => rfl) ?_
  refine o_end ?_
  refine den_condf (look_tmp rfl) ?_
  refine den_skip ?_
  refine den_seq ?_
  refine den_open (fun z2 h_z2 => ?_)
  have hB : ∀ (z1α : (Value × Nat)) (S : Nat → Bool) (b1 b7 : Bool), S 1 = b1 → S 7 = b7 → (([.rvec val0_0 (T_deque_Cell_rep) d_0.cells, .obj false blk0 off0 (.dat (T_deque_Deque_repo val0_0)) d_0, (cond (S 1) (.vec (z1α.1) (T_deque_Cell_rep) z2) (.gone)), (cond (S 7) (.obj true (z1α.2) 0 (.dat (T_deque_Deque_repo (z1α.1))) (⟨z2, 0, d_0.sum⟩ : T_deque_Deque)) (.gone))] : List Go.Eng.Item)) = ([.rvec val0_0 (T_deque_Cell_rep) d_0.cells, .obj false blk0 off0 (.dat (T_deque_Deque_repo val0_0)) d_0, (cond b1 (.vec (z1α.1) (T_deque_Cell_rep) z2) (.gone)), (cond b7 (.obj true (z1α.2) 0 (.dat (T_deque_Deque_repo (z1α.1))) (⟨z2, 0, d_0.sum⟩ : T_deque_Deque)) (.gone))] : List Go.Eng.Item) := fun z1α S b1 b7 h1 h7 => by subst h1; subst h7; rfl
  refine den_weak sub_gone ?_
  refine den_weak sub_gone ?_
  refine den_weak (sub_pick (H' := [.rvec val0_0 (T_deque_Cell_rep) d_0.cells, .obj false blk0 off0 (.dat (T_deque_Deque_repo val0_0)) d_0, .gone, .gone]) [2, 3, 0, 1] rfl rfl) ?_
  refine den_drawA (A := (Value × Nat)) (H' := fun z1α => [.rvec val0_0 (T_deque_Cell_rep) d_0.cells, .obj false blk0 off0 (.dat (T_deque_Deque_repo val0_0)) d_0, .vec (z1α.1) (T_deque_Cell_rep) z2, .obj true (z1α.2) 0 (.dat (T_deque_Deque_repo (z1α.1))) (⟨z2, 0, d_0.sum⟩ : T_deque_Deque)]) (fun z1α => [(5, ⟨Rep.addr, (blk0, off0), true⟩), (6, ⟨Rep.val1, z1α.1, true⟩), (7, ⟨Rep.addr, (blk0, off0), true⟩), (8, ⟨Rep.addr, (blk0, off0), true⟩), (9, ⟨Rep.addr, (blk0, off0 + 2), true⟩), (10, ⟨Rep.int .i64, d_0.sum, true⟩), (11, ⟨(T_deque_Deque_repo (z1α.1)), (⟨z2, 0, d_0.sum⟩ : T_deque_Deque), true⟩), (12, ⟨Rep.addr, (z1α.2, 0), true⟩), (2, ⟨Rep.addr, (z1α.2, 0), true⟩)]) (fun z1α S => [.rvec val0_0 (T_deque_Cell_rep) d_0.cells, .obj false blk0 off0 (.dat (T_deque_Deque_repo val0_0)) d_0, (cond (S 1) (.vec (z1α.1) (T_deque_Cell_rep) z2) (.gone)), (cond (S 7) (.obj true (z1α.2) 0 (.dat (T_deque_Deque_repo (z1α.1))) (⟨z2, 0, d_0.sum⟩ : T_deque_Deque)) (.gone))]) ((Value.slice none 0 0), 0) mixed (fun _ => rfl) rfl rfl (fun z1α S hS => hB z1α S true true (hS 1 (by decide)) (hS 7 (by decide))) ⟨?_, ?_, ?_, ?_, ?_, ?_, ?_, ?_, ?_, trivial⟩ (fun z1α => ?_)
  · intro z1α S hc hk hp
    have e1 : S 1 = false := (not_yet (j := 1) (q := 0) hc hk rfl rfl rfl rfl)
    have e7 : S 7 = false := (not_yet (j := 7) (q := 0) hc (not_yet (j := 6) (q := 0) hc (not_yet (j := 1) (q := 0) hc hk rfl rfl rfl rfl) rfl rfl rfl rfl) rfl rfl rfl rfl)
    refine eq_H (H' := [.rvec val0_0 (T_deque_Cell_rep) d_0.cells, .obj false blk0 off0 (.dat (T_deque_Deque_repo val0_0)) d_0, .gone, .gone]) (by first | exact hB z1α S false false e1 e7 | (have q := hB z1α S false false e1 e7; simp only [cond_true, cond_false] at q; exact q)) ?_
    refine o_move rfl rfl guard_none (look_o rfl rfl) (fun _ => rfl) ?_
    apply h_endA (α := z1α) (z1α.1, z1α.2)
    · exact (.same (.same (.same (.same (.same (.same (.same (.same (.same .nil)))))))))
    · exact rfl
    · exact rfl
    · exact rfl
    · exact hB (z1α.1, z1α.2) (fun k => S k || Nat.beq k 0) false false (or_f e1 rfl) (or_f e7 rfl)
  · intro z1α S hc hk hp
    have e7 : S 7 = false := (not_yet (j := 7) (q := 0) hc (not_yet (j := 6) (q := 0) hc hk rfl rfl rfl rfl) rfl rfl rfl rfl)
    refine eq_H (H' := [.rvec val0_0 (T_deque_Cell_rep) d_0.cells, .obj false blk0 off0 (.dat (T_deque_Deque_repo val0_0)) d_0, .gone, .gone]) (by first | exact hB z1α S false false hk e7 | (have q := hB z1α S false false hk e7; simp only [cond_true, cond_false] at q; exact q)) ?_
    refine o_from (bind_eqO h_z2) ?_
    refine o_weak (H' := [] ++ ([.rvec val0_0 (T_deque_Cell_rep) d_0.cells, .obj false blk0 off0 (.dat (T_deque_Deque_repo val0_0)) d_0] ++ [.gone, .gone])) (sub_pick [0, 1, 2, 3] rfl rfl) ?_
    refine o_callU rfl rfl rfl rfl rfl callable50 (looks_cons (look_d rfl rfl (pr hp 0 rfl rfl)) (fun _ => rfl) (looks_nil)) (.rvec (.cons .nil)) (deque_Deque_All_ok _ _ _ d_0) (fun _ _ => (wr_v wr_n)) (fun z3α => o_eqOH ?_)
    refine o_weak (H' := [.vec z3α (T_deque_Cell_rep) z2, .rvec val0_0 (T_deque_Cell_rep) d_0.cells, .obj false blk0 off0 (.dat (T_deque_Deque_repo val0_0)) d_0, .gone, .gone]) (sub_pick [0, 1, 2, 3, 4] rfl rfl) ?_
    refine o_weak (H' := [.rvec val0_0 (T_deque_Cell_rep) d_0.cells, .obj false blk0 off0 (.dat (T_deque_Deque_repo val0_0)) d_0, .vec z3α (T_deque_Cell_rep) z2, .gone]) (sub_pick [1, 2, 0, 4] rfl rfl) ?_
    apply h_endA (α := z1α) (z3α, z1α.2)
    · exact (.same (.off hk (.same (.same (.same (.same (.off (not_yet (j := 6) (q := 0) hc hk rfl rfl rfl rfl) (.same (.same .nil)))))))))
    · exact rfl
    · exact rfl
    · exact rfl
    · exact hB (z3α, z1α.2) (fun k => S k || Nat.beq k 1) true false (or_i rfl) (or_f e7 rfl)
  · intro z1α S hc hk hp
    have e7 : S 7 = false := (not_yet (j := 7) (q := 0) hc (not_yet (j := 6) (q := 1) hc (not_yet (j := 5) (q := 0) hc (not_yet (j := 4) (q := 0) hc (not_yet (j := 3) (q := 0) hc hk rfl rfl rfl rfl) rfl rfl rfl rfl) rfl rfl rfl rfl) rfl rfl rfl rfl) rfl rfl rfl rfl)
    refine eq_H (H' := [.rvec val0_0 (T_deque_Cell_rep) d_0.cells, .obj false blk0 off0 (.dat (T_deque_Deque_repo val0_0)) d_0, (cond (S 1) (.vec (z1α.1) (T_deque_Cell_rep) z2) (.gone)), .gone]) (by first | exact hB z1α S (S 1) false rfl e7 | (have q := hB z1α S (S 1) false rfl e7; simp only [cond_true, cond_false] at q; exact q)) ?_
    refine o_move rfl rfl guard_none (look_o rfl rfl) (fun _ => rfl) ?_
    apply h_endA (α := z1α) (z1α.1, z1α.2)
    · exact (.same (.same (.same (.same (.same (.same (.same (.same (.same .nil)))))))))
    · exact rfl
    · exact rfl
    · exact rfl
    · exact hB (z1α.1, z1α.2) (fun k => S k || Nat.beq k 2) (S 1) false (or_ne rfl) (or_f e7 rfl)
  · intro z1α S hc hk hp
    have e7 : S 7 = false := (not_yet (j := 7) (q := 0) hc (not_yet (j := 6) (q := 1) hc (not_yet (j := 5) (q := 0) hc (not_yet (j := 4) (q := 0) hc hk rfl rfl rfl rfl) rfl rfl rfl rfl) rfl rfl rfl rfl) rfl rfl rfl rfl)
    refine eq_H (H' := [.rvec val0_0 (T_deque_Cell_rep) d_0.cells, .obj false blk0 off0 (.dat (T_deque_Deque_repo val0_0)) d_0, (cond (S 1) (.vec (z1α.1) (T_deque_Cell_rep) z2) (.gone)), .gone]) (by first | exact hB z1α S (S 1) false rfl e7 | (have q := hB z1α S (S 1) false rfl e7; simp only [cond_true, cond_false] at q; exact q)) ?_
    refine o_nilc rfl rfl guard_none (look_d rfl rfl (pr hp 0 rfl rfl)) (fun _ => rfl) ?_
    apply h_endA (α := z1α) (z1α.1, z1α.2)
    · exact (.same (.same (.same (.same (.same (.same (.same (.same (.same .nil)))))))))
    · exact rfl
    · exact rfl
    · exact rfl
    · exact hB (z1α.1, z1α.2) (fun k => S k || Nat.beq k 3) (S 1) false (or_ne rfl) (or_f e7 rfl)
  · intro z1α S hc hk hp
    have e7 : S 7 = false := (not_yet (j := 7) (q := 0) hc (not_yet (j := 6) (q := 1) hc (not_yet (j := 5) (q := 0) hc hk rfl rfl rfl rfl) rfl rfl rfl rfl) rfl rfl rfl rfl)
    refine eq_H (H' := [.rvec val0_0 (T_deque_Cell_rep) d_0.cells, .obj false blk0 off0 (.dat (T_deque_Deque_repo val0_0)) d_0, (cond (S 1) (.vec (z1α.1) (T_deque_Cell_rep) z2) (.gone)), .gone]) (by first | exact hB z1α S (S 1) false rfl e7 | (have q := hB z1α S (S 1) false rfl e7; simp only [cond_true, cond_false] at q; exact q)) ?_
    refine o_faddr field29_2 type2 (by decide) rfl rfl guard_none (look_d rfl rfl (pr hp 0 rfl rfl)) (fun _ => rfl) ?_
    apply h_endA (α := z1α) (z1α.1, z1α.2)
    · exact (.same (.same (.same (.same (.same (.same (.same (.same (.same .nil)))))))))
    · exact rfl
    · exact rfl
    · exact rfl
    · exact hB (z1α.1, z1α.2) (fun k => S k || Nat.beq k 4) (S 1) false (or_ne rfl) (or_f e7 rfl)
  · intro z1α S hc hk hp
    have e7 : S 7 = false := (not_yet (j := 7) (q := 0) hc (not_yet (j := 6) (q := 1) hc hk rfl rfl rfl rfl) rfl rfl rfl rfl)
    refine eq_H (H' := [.rvec val0_0 (T_deque_Cell_rep) d_0.cells, .obj false blk0 off0 (.dat (T_deque_Deque_repo val0_0)) d_0, (cond (S 1) (.vec (z1α.1) (T_deque_Cell_rep) z2) (.gone)), .gone]) (by first | exact hB z1α S (S 1) false rfl e7 | (have q := hB z1α S (S 1) false rfl e7; simp only [cond_true, cond_false] at q; exact q)) ?_
    refine o_oloadi 1 rfl type2 (T_deque_Deque_foco2 val0_0) rfl guard_none (look_d rfl rfl (pr hp 0 rfl rfl)) (fun _ => rfl) ?_
    apply h_endA (α := z1α) (z1α.1, z1α.2)
    · exact (.same (.same (.same (.same (.same (.same (.same (.same (.same .nil)))))))))
    · exact rfl
    · exact rfl
    · exact rfl
    · exact hB (z1α.1, z1α.2) (fun k => S k || Nat.beq k 5) (S 1) false (or_ne rfl) (or_f e7 rfl)
  · intro z1α S hc hk hp
    have e1 : S 1 = true := (pr hp 0 rfl rfl)
    have e7 : S 7 = false := (not_yet (j := 7) (q := 0) hc hk rfl rfl rfl rfl)
    refine eq_H (H' := [.rvec val0_0 (T_deque_Cell_rep) d_0.cells, .obj false blk0 off0 (.dat (T_deque_Deque_repo val0_0)) d_0, .vec (z1α.1) (T_deque_Cell_rep) z2, .gone]) (by first | exact hB z1α S true false e1 e7 | (have q := hB z1α S true false e1 e7; simp only [cond_true, cond_false] at q; exact q)) ?_
    refine o_build (R := T_deque_Deque_repo0 (z1α.1)) (f := T_deque_Deque_tupo) (y := (⟨z2, 0, d_0.sum⟩ : T_deque_Deque)) shape29 rfl rfl rfl rfl guard_none (bld_part rfl rfl (look_isvv 2 (.inl rfl) (look_d rfl rfl (pr hp 0 rfl rfl))) (fun _ => rfl) (bld_zero (z_int rfl) (bld_part rfl rfl (look_d rfl rfl (pr hp 1 rfl rfl)) (fun _ => rfl) (bld_nil)))) ?_
    apply h_endA (α := z1α) (z1α.1, z1α.2)
    · exact (.same (.same (.same (.same (.same (.same (.same (.same (.same .nil)))))))))
    · exact rfl
    · exact rfl
    · exact rfl
    · exact hB (z1α.1, z1α.2) (fun k => S k || Nat.beq k 6) true false (or_t e1) (or_f e7 rfl)
  · intro z1α S hc hk hp
    have e1 : S 1 = true := (pr (hc 6 _ rfl (pr hp 0 rfl rfl)) 0 rfl rfl)
    refine eq_H (H' := [.rvec val0_0 (T_deque_Cell_rep) d_0.cells, .obj false blk0 off0 (.dat (T_deque_Deque_repo val0_0)) d_0, .vec (z1α.1) (T_deque_Cell_rep) z2, .gone]) (by first | exact hB z1α S true false e1 hk | (have q := hB z1α S true false e1 hk; simp only [cond_true, cond_false] at q; exact q)) ?_
    refine o_box rfl rfl (look_d rfl rfl (pr hp 0 rfl rfl)) rfl (fun z4 => ?_)
    refine o_weak (H' := [.rvec val0_0 (T_deque_Cell_rep) d_0.cells, .obj false blk0 off0 (.dat (T_deque_Deque_repo val0_0)) d_0, .vec (z1α.1) (T_deque_Cell_rep) z2, .obj true z4 0 (.dat (T_deque_Deque_repo (z1α.1))) (⟨z2, 0, d_0.sum⟩ : T_deque_Deque)]) (sub_pick [1, 2, 3, 0] rfl rfl) ?_
    apply h_endA (α := z1α) (z1α.1, z4)
    · exact (.same (.same (.same (.same (.same (.same (.same (.off hk (.off (not_yet (j := 8) (q := 0) hc hk rfl rfl rfl rfl) .nil)))))))))
    · exact rfl
    · exact rfl
    · exact rfl
    · exact hB (z1α.1, z4) (fun k => S k || Nat.beq k 7) true true (or_t e1) (or_i rfl)
  · intro z1α S hc hk hp
    have e1 : S 1 = true := (pr hp 1 rfl rfl)
    have e7 : S 7 = true := (pr hp 0 rfl rfl)
    refine eq_H (H' := [.rvec val0_0 (T_deque_Cell_rep) d_0.cells, .obj false blk0 off0 (.dat (T_deque_Deque_repo val0_0)) d_0, .vec (z1α.1) (T_deque_Cell_rep) z2, .obj true (z1α.2) 0 (.dat (T_deque_Deque_repo (z1α.1))) (⟨z2, 0, d_0.sum⟩ : T_deque_Deque)]) (by first | exact hB z1α S true true e1 e7 | (have q := hB z1α S true true e1 e7; simp only [cond_true, cond_false] at q; exact q)) ?_
    refine o_assign rfl rfl guard_none (look_d rfl rfl (pr hp 0 rfl rfl)) (fun _ => rfl) ?_
    apply h_endA (α := z1α) (z1α.1, z1α.2)
    · exact (.same (.same (.same (.same (.same (.same (.same (.same (.same .nil)))))))))
    · exact rfl
    · exact rfl
    · exact rfl
    · exact hB (z1α.1, z1α.2) (fun k => S k || Nat.beq k 8) true true (or_t e1) (or_t e7)
  refine den_code_ret ?_
  exact dene_resI ((z1α.2, 0), z1α.1) (res1 rfl (rv_tmp rfl)) (fun _ _ _ k => ato_pick [2, 3] rfl rfl k)

theorem window_span_apart_ok (blk0 : Nat) (off0 : Nat) (val0_0 : Value) (p_0 : T_window_span) : FunOkI Try.prog 59 [⟨.addr, (blk0, off0), true⟩] [.rvec val0_0 (T_deque_Cell_rep) p_0.was.cells, .obj false blk0 off0 (.dat (T_window_span_repo val0_0)) p_0] (window_span_apart p_0) (Rep.dep (fun a : Value => (T_window_span_repo a)) 7 aggv true (fun _ => rfl) (fun _ => rfl) (fun _ => rfl)) (fun (α : Value) (y : T_window_span) => (α, y)) (fun α y => [.vec α (T_deque_Cell_rep) y.was.cells]) := by
  refine fun_okI Try.func59 rfl Try.ntmps59 rfl (all_cons rfl all_nil) (fun w0 ok0 M => ?_)
  refine den_seq ?_
  refine den_region rfl ?_
  refine o_weak (sub_nilvec (R := T_deque_Cell_rep) rfl) ?_
  refine o_alloc zeroo77 rfl rfl (fun z1 => ?_)
  refine o_end ?_
  refine den_seq ?_
  refine den_region rfl ?_
  refine o_move rfl rfl guard_none (look_tmp rfl) (fun _ => rfl) ?_
  refine o_nilc rfl rfl guard_none (look_tmp rfl) (fun _ => rfl) ?_
  refine o_oloadi 3 rfl (typeo77 val0_0) foc_self rfl guard_none (look_tmp rfl) (fun _ => rfl) ?_
  refine o_weak (sub_nilvec (R := T_deque_Cell_rep) rfl) ?_
  refine o_alloc zeroo77 rfl rfl (fun z2 => ?_)
  refine o_wstore (typeo77 val0_0) (foc2_self rfl (fun h => h)) (look_tmp rfl) rfl (look_tmp rfl) rfl ?_
  refine o_end ?_
  refine den_seq ?_
  refine den_region rfl ?_
  refine o_move rfl rfl guard_none (look_tmp rfl) (fun _ => rfl) ?_
  refine o_nilc rfl rfl guard_none (look_tmp rfl) (fun _ => rfl) ?_
  refine o_faddr field77_4 type29 (by decide) rfl rfl guard_none (look_tmp rfl) (fun _ => rfl) ?_
  refine o_weak (H' := [.obj false blk0 off0 (.dat (T_window_span_repo val0_0)) p_0, .obj true z2 0 (.dat (T_window_span_repo val0_0)) p_0, .vec (Value.slice none 0 0) (T_deque_Cell_rep) T_window_span_zero.was.cells, .obj true z1 0 (.dat (T_window_span_repo (Value.slice none 0 0))) T_window_span_zero, .vec (Value.slice none 0 0) (T_deque_Cell_rep) T_window_span_zero.was.cells, .rvec val0_0 (T_deque_Cell_rep) p_0.was.cells]) (sub_pick [5, 0, 1, 2, 3, 4] rfl rfl) ?_
  refine o_weak (sub_part (R' := (T_window_span_repo val0_0)) (S' := (T_deque_Deque_repo val0_0)) (T_window_span_focw4 val0_0 val0_0) rfl) ?_
  refine o_weak (H' := [.obj false blk0 (off0 + 4) (.dat (T_deque_Deque_repo val0_0)) p_0.was, .hole false blk0 off0 4 ((T_deque_Deque_repo val0_0)).size (T_window_span_repo val0_0) p_0, .obj true z2 0 (.dat (T_window_span_repo val0_0)) p_0, .vec (Value.slice none 0 0) (T_deque_Cell_rep) T_window_span_zero.was.cells, .obj true z1 0 (.dat (T_window_span_repo (Value.slice none 0 0))) T_window_span_zero, .vec (Value.slice none 0 0) (T_deque_Cell_rep) T_window_span_zero.was.cells, .rvec val0_0 (T_deque_Cell_rep) p_0.was.cells]) (sub_pick [0, 1, 2, 3, 4, 5, 6] rfl rfl) ?_
  refine o_weak (H' := [] ++ ([.rvec val0_0 (T_deque_Cell_rep) p_0.was.cells, .obj false blk0 (off0 + 4) (.dat (T_deque_Deque_repo val0_0)) p_0.was] ++ [.hole false blk0 off0 4 ((T_deque_Deque_repo val0_0)).size (T_window_span_repo val0_0) p_0, .obj true z2 0 (.dat (T_window_span_repo val0_0)) p_0, .vec (Value.slice none 0 0) (T_deque_Cell_rep) T_window_span_zero.was.cells, .obj true z1 0 (.dat (T_window_span_repo (Value.slice none 0 0))) T_window_span_zero, .vec (Value.slice none 0 0) (T_deque_Cell_rep) T_window_span_zero.was.cells])) (sub_pick [6, 0, 1, 2, 3, 4, 5] rfl rfl) ?_
  refine o_callU rfl rfl rfl rfl rfl callable20 (looks_cons (look_tmp rfl) (fun _ => rfl) (looks_nil)) (.rvec (.cons .nil)) (deque_Deque_Clone_ok _ _ _ p_0.was) (fun _ _ => (wr_v (wr_c wr_n))) (fun z4α z3 => ?_)
  obtain ⟨⟨z5, z6⟩, z7⟩ := z4α
  refine o_weak (H' := [.vec z7 (T_deque_Cell_rep) z3.cells, .obj true z5 z6 (.dat (T_deque_Deque_repo z7)) z3, .rvec val0_0 (T_deque_Cell_rep) p_0.was.cells, .obj false blk0 (off0 + 4) (.dat (T_deque_Deque_repo val0_0)) p_0.was, .hole false blk0 off0 4 ((T_deque_Deque_repo val0_0)).size (T_window_span_repo val0_0) p_0, .obj true z2 0 (.dat (T_window_span_repo val0_0)) p_0, .vec (Value.slice none 0 0) (T_deque_Cell_rep) T_window_span_zero.was.cells, .obj true z1 0 (.dat (T_window_span_repo (Value.slice none 0 0))) T_window_span_zero, .vec (Value.slice none 0 0) (T_deque_Cell_rep) T_window_span_zero.was.cells]) (sub_pick [0, 1, 2, 3, 4, 5, 6, 7, 8] rfl rfl) ?_
  refine o_weak (H' := [.obj false blk0 (off0 + 4) (.dat (T_deque_Deque_repo val0_0)) p_0.was, .hole false blk0 off0 4 ((T_deque_Deque_repo val0_0)).size (T_window_span_repo val0_0) p_0, .vec z7 (T_deque_Cell_rep) z3.cells, .obj true z5 z6 (.dat (T_deque_Deque_repo z7)) z3, .rvec val0_0 (T_deque_Cell_rep) p_0.was.cells, .obj true z2 0 (.dat (T_window_span_repo val0_0)) p_0, .vec (Value.slice none 0 0) (T_deque_Cell_rep) T_window_span_zero.was.cells, .obj true z1 0 (.dat (T_window_span_repo (Value.slice none 0 0))) T_window_span_zero, .vec (Value.slice none 0 0) (T_deque_Cell_rep) T_window_span_zero.was.cells]) (sub_pick [3, 4, 0, 1, 2, 5, 6, 7, 8] rfl rfl) ?_
  refine o_weak (sub_whole (T_window_span_focw4 val0_0 val0_0)) ?_
  refine o_weak (H' := [.obj false blk0 off0 (.dat (T_window_span_repo val0_0)) p_0, .vec z7 (T_deque_Cell_rep) z3.cells, .obj true z5 z6 (.dat (T_deque_Deque_repo z7)) z3, .rvec val0_0 (T_deque_Cell_rep) p_0.was.cells, .obj true z2 0 (.dat (T_window_span_repo val0_0)) p_0, .vec (Value.slice none 0 0) (T_deque_Cell_rep) T_window_span_zero.was.cells, .obj true z1 0 (.dat (T_window_span_repo (Value.slice none 0 0))) T_window_span_zero, .vec (Value.slice none 0 0) (T_deque_Cell_rep) T_window_span_zero.was.cells]) (sub_pick [0, 1, 2, 3, 4, 5, 6, 7] rfl rfl) ?_
  refine o_nilc rfl rfl guard_none (look_tmp rfl) (fun _ => rfl) ?_
  refine o_oloadi 2 rfl (typeo29 z7) foc_self rfl guard_none (look_tmp rfl) (fun _ => rfl) ?_
  refine o_faddr field77_4 type29 (by decide) rfl rfl guard_none (look_tmp rfl) (fun _ => rfl) ?_
  refine o_weak (H' := [.obj true z2 0 (.dat (T_window_span_repo val0_0)) p_0, .obj false blk0 off0 (.dat (T_window_span_repo val0_0)) p_0, .vec z7 (T_deque_Cell_rep) z3.cells, .obj true z5 z6 (.dat (T_deque_Deque_repo z7)) z3, .rvec val0_0 (T_deque_Cell_rep) p_0.was.cells, .vec (Value.slice none 0 0) (T_deque_Cell_rep) T_window_span_zero.was.cells, .obj true z1 0 (.dat (T_window_span_repo (Value.slice none 0 0))) T_window_span_zero, .vec (Value.slice none 0 0) (T_deque_Cell_rep) T_window_span_zero.was.cells]) (sub_pick [4, 0, 1, 2, 3, 5, 6, 7] rfl rfl) ?_
  refine o_wstore (typeo29 z7) (T_window_span_focw4 val0_0 z7) (look_tmp rfl) rfl (look_tmp rfl) rfl ?_
  refine o_end ?_
  refine den_seq ?_
  refine den_region rfl ?_
  refine o_oloadi 0 rfl (typeo77 z7) foc_self rfl guard_none (look_tmp rfl) (fun _ => rfl) ?_
  refine o_weak (H' := [.obj true z1 0 (.dat (T_window_span_repo (Value.slice none 0 0))) T_window_span_zero, .obj true z2 0 (.dat (T_window_span_repo z7)) ({ p_0 with was := z3 }), .obj false blk0 off0 (.dat (T_window_span_repo val0_0)) p_0, .vec z7 (T_deque_Cell_rep) z3.cells, .obj true z5 z6 (.dat (T_deque_Deque_repo z7)) z3, .rvec val0_0 (T_deque_Cell_rep) p_0.was.cells, .vec (Value.slice none 0 0) (T_deque_Cell_rep) T_window_span_zero.was.cells, .vec (Value.slice none 0 0) (T_deque_Cell_rep) T_window_span_zero.was.cells]) (sub_pick [6, 0, 1, 2, 3, 4, 5, 7] rfl rfl) ?_
  refine o_wstore (typeo77 z7) (foc2_self rfl (fun h => h)) (look_tmp rfl) rfl (look_tmp rfl) rfl ?_
  refine o_end ?_
  refine den_code_ret ?_
  exact dene_resI z7 (res1 rfl (rv_dep (rv_cell 0 (typeo77 z7) rfl rfl) (fun _ _ _ h => h))) (fun _ _ _ k => ato_pick [3] rfl rfl k)

theorem window_Once_Clone_ok (blk0 : Nat) (off0 : Nat) (val0_0 : Value) (w_0 : T_window_Once) : FunOkI Try.prog 39 [⟨.addr, (blk0, off0), true⟩] [.rvec val0_0 (T_deque_Cell_rep) w_0.span.was.cells, .obj false blk0 off0 (.dat (T_window_Once_repo val0_0)) w_0] (window_Once_Clone w_0) (Rep.optr) (fun (α : ((Nat × Nat) × Value)) (y : (Option T_window_Once)) => (y.map fun _ => α.1)) (fun α y => (optL y fun q => [.vec α.2 (T_deque_Cell_rep) q.span.was.cells, .obj true α.1.1 α.1.2 (.dat (T_window_Once_repo α.2)) q]) ++ []) := by
  refine fun_okI Try.func39 rfl Try.ntmps39 rfl (all_cons rfl all_nil) (fun w0 ok0 M => ?_)
  refine den_seq ?_
  refine den_region rfl ?_
  refine o_assign rfl rfl guard_none look_nilp (fun _ => rfl) ?_
  refine o_end ?_
  refine den_seq ?_
  refine den_seq ?_
  refine den_region rfl ?_
  refine o_move rfl rfl guard_none (look_tmp rfl) (fun _ => rfl) ?_
  refine o_peql Try.underlying61 rfl rfl guard_none (look_tmp rfl) (fun _ => rfl) ?_
  refine o_move rfl rfl guard_none (look_tmp rfl) (fun _ => rfl) ?_
  refine o_move rfl rfl (guard_some rfl rfl rfl) (look_tmp rfl) (fun _ => rfl) ?_
  refine o_nilc rfl rfl (guard_some rfl rfl rfl) (look_tmp rfl) (fun h => h) ?_
  refine o_faddr field79_0 type77 (by decide) rfl rfl (guard_some rfl rfl rfl) (look_tmp rfl) (fun h => h) ?_
  refine o_faddr field77_3 type4 (by decide) rfl rfl (guard_some rfl rfl rfl) (look_tmp rfl) (fun h => h) ?_
  refine o_oloadi 1 rfl type4 (foc_in (T_window_Once_foco0 val0_0) (T_window_span_foco3 val0_0)) rfl (guard_some rfl rfl rfl) (look_tmp rfl) (fun h => h) ?_
  refine o_not rfl rfl (guard_some rfl rfl rfl) (look_tmp rfl) (fun h => h) ?_
  refine o_pick rfl rfl guard_none (look_tmp rfl) look_bool (look_tmp rfl) (fun _ => rfl) (fun _ _ => rfl) (fun h1 h2 => pick_f ((fun _ => rfl) h1) h2) ?_
  refine o_end ?_
  refine den_cond (look_tmp rfl) ?_ ?_
  · refine den_seq ?_
    refine den_region rfl ?_
    refine o_assign rfl rfl guard_none look_nilp (fun _ => rfl) ?_
    refine o_end ?_
    refine den_code_ret ?_
    refine dene_ret ?_
    exact dene_resI ((0, 0), (Value.slice none 0 0)) (res1 rfl (rv_onil rfl)) (fun _ _ _ k => ato_pick [] rfl rfl k)
  · refine den_skip ?_
    refine den_seq ?_
    refine den_region rfl ?_
    refine o_move rfl rfl guard_none (look_tmp rfl) (fun _ => rfl) ?_
    refine o_nilc rfl rfl guard_none (look_tmp rfl) (fun _ => rfl) ?_
    refine o_faddr field79_0 type77 (by decide) rfl rfl guard_none (look_tmp rfl) (fun _ => rfl) ?_
    refine o_weak (H' := [.obj false blk0 off0 (.dat (T_window_Once_repo val0_0)) w_0, .rvec val0_0 (T_deque_Cell_rep) w_0.span.was.cells]) (sub_pick [1, 0] rfl rfl) ?_
    refine o_weak (sub_part (R' := (T_window_Once_repo val0_0)) (S' := (T_window_span_repo val0_0)) (T_window_Once_focw0 val0_0 val0_0) rfl) ?_
    refine o_weak (H' := [.obj false blk0 (off0 + 0) (.dat (T_window_span_repo val0_0)) w_0.span, .hole false blk0 off0 0 ((T_window_span_repo val0_0)).size (T_window_Once_repo val0_0) w_0, .rvec val0_0 (T_deque_Cell_rep) w_0.span.was.cells]) (sub_pick [0, 1, 2] rfl rfl) ?_
    refine o_weak (H' := [] ++ ([.rvec val0_0 (T_deque_Cell_rep) w_0.span.was.cells, .obj false blk0 (off0 + 0) (.dat (T_window_span_repo val0_0)) w_0.span] ++ [.hole false blk0 off0 0 ((T_window_span_repo val0_0)).size (T_window_Once_repo val0_0) w_0])) (sub_pick [2, 0, 1] rfl rfl) ?_
    refine o_callU rfl rfl rfl rfl rfl callable59 (looks_cons (look_tmp rfl) (fun _ => rfl) (looks_nil)) (.rvec (.cons .nil)) (window_span_apart_ok _ _ _ w_0.span) (fun _ _ => (wr_v wr_n)) (fun z2α z1 => ?_)
    refine o_asdep ?_
    refine o_weak (H' := [.vec z2α (T_deque_Cell_rep) z1.was.cells, .rvec val0_0 (T_deque_Cell_rep) w_0.span.was.cells, .obj false blk0 (off0 + 0) (.dat (T_window_span_repo val0_0)) w_0.span, .hole false blk0 off0 0 ((T_window_span_repo val0_0)).size (T_window_Once_repo val0_0) w_0]) (sub_pick [0, 1, 2, 3] rfl rfl) ?_
    refine o_weak (H' := [.obj false blk0 (off0 + 0) (.dat (T_window_span_repo val0_0)) w_0.span, .hole false blk0 off0 0 ((T_window_span_repo val0_0)).size (T_window_Once_repo val0_0) w_0, .vec z2α (T_deque_Cell_rep) z1.was.cells, .rvec val0_0 (T_deque_Cell_rep) w_0.span.was.cells]) (sub_pick [2, 3, 0, 1] rfl rfl) ?_
    refine o_weak (sub_whole (T_window_Once_focw0 val0_0 val0_0)) ?_
    refine o_weak (H' := [.obj false blk0 off0 (.dat (T_window_Once_repo val0_0)) w_0, .vec z2α (T_deque_Cell_rep) z1.was.cells, .rvec val0_0 (T_deque_Cell_rep) w_0.span.was.cells]) (sub_pick [0, 1, 2] rfl rfl) ?_
    refine o_build (R := T_window_Once_repo0 z2α) (f := T_window_Once_tupo) (y := (⟨z1⟩ : T_window_Once)) shape79 rfl rfl rfl rfl guard_none (bld_part rfl rfl (look_tmp rfl) (fun _ => rfl) (bld_nil)) ?_
    refine o_box rfl rfl (look_tmp rfl) rfl (fun z4 => ?_)
    refine o_assign rfl rfl guard_none (look_tmp rfl) (fun _ => rfl) ?_
    refine o_end ?_
    refine den_code_ret ?_
    exact dene_resI ((z4, 0), z2α) (res1 rfl (rv_optr rfl)) (fun _ _ _ k => ato_pick [2, 0] rfl rfl k)

theorem window_Since_Clone_ok (blk0 : Nat) (off0 : Nat) (val0_0 : Value) (w_0 : T_window_Since) : FunOkI Try.prog 40 [⟨.addr, (blk0, off0), true⟩] [.rvec val0_0 (T_deque_Cell_rep) w_0.span.was.cells, .obj false blk0 off0 (.dat (T_window_Since_repo val0_0)) w_0] (window_Since_Clone w_0) (Rep.optr) (fun (α : ((Nat × Nat) × Value)) (y : (Option T_window_Since)) => (y.map fun _ => α.1)) (fun α y => (optL y fun q => [.vec α.2 (T_deque_Cell_rep) q.span.was.cells, .obj true α.1.1 α.1.2 (.dat (T_window_Since_repo α.2)) q]) ++ []) := by
  refine fun_okI Try.func40 rfl Try.ntmps40 rfl (all_cons rfl all_nil) (fun w0 ok0 M => ?_)
  refine den_seq ?_
  refine den_region rfl ?_
  refine o_assign rfl rfl guard_none look_nilp (fun _ => rfl) ?_
  refine o_end ?_
  refine den_seq ?_
  refine den_seq ?_
  refine den_region rfl ?_
  refine o_move rfl rfl guard_none (look_tmp rfl) (fun _ => rfl) ?_
  refine o_peql Try.underlying69 rfl rfl guard_none (look_tmp rfl) (fun _ => rfl) ?_
  refine o_move rfl rfl guard_none (look_tmp rfl) (fun _ => rfl) ?_
  refine o_move rfl rfl (guard_some rfl rfl rfl) (look_tmp rfl) (fun _ => rfl) ?_
  refine o_nilc rfl rfl (guard_some rfl rfl rfl) (look_tmp rfl) (fun h => h) ?_
  refine o_faddr field80_0 type77 (by decide) rfl rfl (guard_some rfl rfl rfl) (look_tmp rfl) (fun h => h) ?_
  refine o_faddr field77_3 type4 (by decide) rfl rfl (guard_some rfl rfl rfl) (look_tmp rfl) (fun h => h) ?_
  refine o_oloadi 1 rfl type4 (foc_in (T_window_Since_foco0 val0_0) (T_window_span_foco3 val0_0)) rfl (guard_some rfl rfl rfl) (look_tmp rfl) (fun h => h) ?_
  refine o_not rfl rfl (guard_some rfl rfl rfl) (look_tmp rfl) (fun h => h) ?_
  refine o_pick rfl rfl guard_none (look_tmp rfl) look_bool (look_tmp rfl) (fun _ => rfl) (fun _ _ => rfl) (fun h1 h2 => pick_f ((fun _ => rfl) h1) h2) ?_
  refine o_end ?_
  refine den_cond (look_tmp rfl) ?_ ?_
  · refine den_seq ?_
    refine den_region rfl ?_
    refine o_assign rfl rfl guard_none look_nilp (fun _ => rfl) ?_
    refine o_end ?_
    refine den_code_ret ?_
    refine dene_ret ?_
    exact dene_resI ((0, 0), (Value.slice none 0 0)) (res1 rfl (rv_onil rfl)) (fun _ _ _ k => ato_pick [] rfl rfl k)
  · refine den_skip ?_
    refine den_seq ?_
    refine den_region rfl ?_
    refine o_move rfl rfl guard_none (look_tmp rfl) (fun _ => rfl) ?_
    refine o_nilc rfl rfl guard_none (look_tmp rfl) (fun _ => rfl) ?_
    refine o_faddr field80_0 type77 (by decide) rfl rfl guard_none (look_tmp rfl) (fun _ => rfl) ?_
    refine o_weak (H' := [.obj false blk0 off0 (.dat (T_window_Since_repo val0_0)) w_0, .rvec val0_0 (T_deque_Cell_rep) w_0.span.was.cells]) (sub_pick [1, 0] rfl rfl) ?_
    refine o_weak (sub_part (R' := (T_window_Since_repo val0_0)) (S' := (T_window_span_repo val0_0)) (T_window_Since_focw0 val0_0 val0_0) rfl) ?_
    refine o_weak (H' := [.obj false blk0 (off0 + 0) (.dat (T_window_span_repo val0_0)) w_0.span, .hole false blk0 off0 0 ((T_window_span_repo val0_0)).size (T_window_Since_repo val0_0) w_0, .rvec val0_0 (T_deque_Cell_rep) w_0.span.was.cells]) (sub_pick [0, 1, 2] rfl rfl) ?_
    refine o_weak (H' := [] ++ ([.rvec val0_0 (T_deque_Cell_rep) w_0.span.was.cells, .obj false blk0 (off0 + 0) (.dat (T_window_span_repo val0_0)) w_0.span] ++ [.hole false blk0 off0 0 ((T_window_span_repo val0_0)).size (T_window_Since_repo val0_0) w_0])) (sub_pick [2, 0, 1] rfl rfl) ?_
    refine o_callU rfl rfl rfl rfl rfl callable59 (looks_cons (look_tmp rfl) (fun _ => rfl) (looks_nil)) (.rvec (.cons .nil)) (window_span_apart_ok _ _ _ w_0.span) (fun _ _ => (wr_v wr_n)) (fun z2α z1 => ?_)
    refine o_asdep ?_
    refine o_weak (H' := [.vec z2α (T_deque_Cell_rep) z1.was.cells, .rvec val0_0 (T_deque_Cell_rep) w_0.span.was.cells, .obj false blk0 (off0 + 0) (.dat (T_window_span_repo val0_0)) w_0.span, .hole false blk0 off0 0 ((T_window_span_repo val0_0)).size (T_window_Since_repo val0_0) w_0]) (sub_pick [0, 1, 2, 3] rfl rfl) ?_
    refine o_weak (H' := [.obj false blk0 (off0 + 0) (.dat (T_window_span_repo val0_0)) w_0.span, .hole false blk0 off0 0 ((T_window_span_repo val0_0)).size (T_window_Since_repo val0_0) w_0, .vec z2α (T_deque_Cell_rep) z1.was.cells, .rvec val0_0 (T_deque_Cell_rep) w_0.span.was.cells]) (sub_pick [2, 3, 0, 1] rfl rfl) ?_
    refine o_weak (sub_whole (T_window_Since_focw0 val0_0 val0_0)) ?_
    refine o_weak (H' := [.obj false blk0 off0 (.dat (T_window_Since_repo val0_0)) w_0, .vec z2α (T_deque_Cell_rep) z1.was.cells, .rvec val0_0 (T_deque_Cell_rep) w_0.span.was.cells]) (sub_pick [0, 1, 2] rfl rfl) ?_
    refine o_build (R := T_window_Since_repo0 z2α) (f := T_window_Since_tupo) (y := (⟨z1⟩ : T_window_Since)) shape80 rfl rfl rfl rfl guard_none (bld_part rfl rfl (look_tmp rfl) (fun _ => rfl) (bld_nil)) ?_
    refine o_box rfl rfl (look_tmp rfl) rfl (fun z4 => ?_)
    refine o_assign rfl rfl guard_none (look_tmp rfl) (fun _ => rfl) ?_
    refine o_end ?_
    refine den_code_ret ?_
    exact dene_resI ((z4, 0), z2α) (res1 rfl (rv_optr rfl)) (fun _ _ _ k => ato_pick [2, 0] rfl rfl k)

end Go.Proofs.Ytlikbfnaihccmaa.M
