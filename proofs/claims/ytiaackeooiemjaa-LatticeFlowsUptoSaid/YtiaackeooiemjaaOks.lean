/- That the Go functions answer as the plain ones: written by gen2.py. -/
import Derived.Test.YtiaackeooiemjaaOks1
namespace Go.Proofs.Ytiaackeooiemjaa.M
open Go.Eng Go
set_option linter.unusedVariables false

set_option maxHeartbeats 1000000 in
theorem law32_LatticeTells_ok  (a_0 : T_lattice_Label) (b_1 : T_lattice_Label) (c_2 : T_lattice_Label) : FunOk Try.prog 7 [⟨T_lattice_Label_rep, a_0, true⟩, ⟨T_lattice_Label_rep, b_1, true⟩, ⟨T_lattice_Label_rep, c_2, true⟩] (law32_LatticeTells a_0 b_1 c_2) (Rep.bool) := by
  refine fun_ok Try.func7 rfl Try.ntmps7 rfl (all_cons rfl (all_cons rfl (all_cons rfl all_nil))) (fun w0 ok0 => ?_)
  refine den_seq ?_
  refine den_region rfl ?_
  refine o_box rfl rfl (look_tmp rfl) rfl (fun z1 => ?_)
  refine o_box rfl rfl (look_tmp rfl) rfl (fun z2 => ?_)
  refine o_box rfl rfl (look_tmp rfl) rfl (fun z3 => ?_)
  refine o_assign rfl rfl guard_none look_bool (fun _ => rfl) ?_
  refine o_end ?_
  refine den_seq ?_
  refine den_seq ?_
  refine den_region rfl ?_
  refine o_call rfl rfl rfl callable24 (looks_nil) (law32_alive_ok) (fun z4 => ?_)
  refine o_not rfl rfl guard_none (look_tmp rfl) (fun _ => rfl) ?_
  refine o_end ?_
  refine den_cond (look_tmp rfl) ?_ ?_
  · refine den_seq ?_
    refine den_region rfl ?_
    refine o_assign rfl rfl guard_none look_bool (fun _ => rfl) ?_
    refine o_end ?_
    refine den_code_ret ?_
    refine dene_ret ?_
    exact dene_res (res1 rfl (rv_tmp rfl))
  · refine den_skip ?_
    refine den_seq ?_
    refine den_region rfl ?_
    refine o_faddr field48_0 type3 (by decide) rfl rfl guard_none (look_tmp rfl) (fun _ => rfl) ?_
    refine o_oloadi 2 rfl type3 T_lattice_Label_foc0 rfl guard_none (look_tmp rfl) (fun _ => rfl) ?_
    refine o_faddr field48_0 type3 (by decide) rfl rfl guard_none (look_tmp rfl) (fun _ => rfl) ?_
    refine o_oloadi 1 rfl type3 T_lattice_Label_foc0 rfl guard_none (look_tmp rfl) (fun _ => rfl) ?_
    refine o_leq rfl rfl guard_none (look_tmp rfl) (look_tmp rfl) (fun _ => rfl) (fun _ => rfl) ?_
    refine o_move rfl rfl guard_none (look_tmp rfl) (fun _ => rfl) ?_
    refine o_faddr field48_1 type46 (by decide) rfl rfl (guard_some rfl rfl rfl) (look_tmp rfl) (fun _ => rfl) ?_
    refine o_oloadi 2 rfl type46 T_lattice_Label_foc1 rfl (guard_some rfl rfl rfl) (look_tmp rfl) (fun h => h) ?_
    refine o_faddr field48_1 type46 (by decide) rfl rfl (guard_some rfl rfl rfl) (look_tmp rfl) (fun _ => rfl) ?_
    refine o_oloadi 1 rfl type46 T_lattice_Label_foc1 rfl (guard_some rfl rfl rfl) (look_tmp rfl) (fun h => h) ?_
    refine o_callg rfl rfl rfl (guard_some rfl rfl rfl) callable25 (looks_cons (look_tmp rfl) (fun h => h) (looks_cons (look_tmp rfl) (fun h => h) (looks_nil))) (law32_all_ok _ _) (fun z5 => ?_)
    refine o_pick rfl rfl guard_none (look_tmp rfl) (look_tmp rfl) look_bool (fun _ => rfl) (fun h1 h2 => pick_t ((fun _ => rfl) h1) h2) (fun _ _ => rfl) ?_
    refine o_assign rfl rfl guard_none (look_tmp rfl) (fun _ => rfl) ?_
    refine o_lt (fun under6 => ?_)
    refine o_end ?_
    refine den_seq ?_
    refine den_open (fun z8 h_z8 => ?_)
    refine den_open (fun z9 h_z9 => ?_)
    have hB : ∀ (z7α : (Nat × Nat)) (S : Nat → Bool) (b6 b7 b8 b9 : Bool), S 6 = b6 → S 7 = b7 → S 8 = b8 → S 9 = b9 → (([.obj true z3 0 (.dat T_lattice_Label_rep) c_2, .obj true z2 0 (.dat T_lattice_Label_rep) b_1, .obj true z1 0 (.dat T_lattice_Label_rep) a_0, (cond (S 8) (.obj true (z7α.1) 0 (.dat T_lattice_Label_rep) z8) ((cond (S 6) (.obj true (z7α.1) 0 (.dat T_lattice_Label_rep) T_lattice_Label_zero) (.gone)))), (cond (S 9) (.obj true (z7α.2) 0 (.dat T_lattice_Label_rep) z9) ((cond (S 7) (.obj true (z7α.2) 0 (.dat T_lattice_Label_rep) T_lattice_Label_zero) (.gone))))] : List Go.Eng.Item)) = ([.obj true z3 0 (.dat T_lattice_Label_rep) c_2, .obj true z2 0 (.dat T_lattice_Label_rep) b_1, .obj true z1 0 (.dat T_lattice_Label_rep) a_0, (cond b8 (.obj true (z7α.1) 0 (.dat T_lattice_Label_rep) z8) ((cond b6 (.obj true (z7α.1) 0 (.dat T_lattice_Label_rep) T_lattice_Label_zero) (.gone)))), (cond b9 (.obj true (z7α.2) 0 (.dat T_lattice_Label_rep) z9) ((cond b7 (.obj true (z7α.2) 0 (.dat T_lattice_Label_rep) T_lattice_Label_zero) (.gone))))] : List Go.Eng.Item) := fun z7α S b6 b7 b8 b9 h6 h7 h8 h9 => by subst h6; subst h7; subst h8; subst h9; rfl
    refine den_weak sub_gone ?_
    refine den_weak sub_gone ?_
    refine den_weak (sub_pick (H' := [.obj true z3 0 (.dat T_lattice_Label_rep) c_2, .obj true z2 0 (.dat T_lattice_Label_rep) b_1, .obj true z1 0 (.dat T_lattice_Label_rep) a_0, .gone, .gone]) [2, 3, 4, 0, 1] rfl rfl) ?_
    refine den_drawA (A := (Nat × Nat)) (H' := fun z7α => [.obj true z3 0 (.dat T_lattice_Label_rep) c_2, .obj true z2 0 (.dat T_lattice_Label_rep) b_1, .obj true z1 0 (.dat T_lattice_Label_rep) a_0, .obj true (z7α.1) 0 (.dat T_lattice_Label_rep) z8, .obj true (z7α.2) 0 (.dat T_lattice_Label_rep) z9]) (fun z7α => [(27, ⟨T_lattice_Label_rep, a_0, true⟩), (28, ⟨T_lattice_Label_rep, b_1, true⟩), (29, ⟨T_lattice_Label_rep, z8, true⟩), (30, ⟨T_lattice_Label_rep, a_0, true⟩), (31, ⟨T_lattice_Label_rep, b_1, true⟩), (32, ⟨T_lattice_Label_rep, z9, true⟩), (8, ⟨Rep.addr, (z7α.1, 0), true⟩), (9, ⟨Rep.addr, (z7α.2, 0), true⟩), (155, ⟨.any, (), false⟩), (156, ⟨.any, (), false⟩)]) (fun z7α S => [.obj true z3 0 (.dat T_lattice_Label_rep) c_2, .obj true z2 0 (.dat T_lattice_Label_rep) b_1, .obj true z1 0 (.dat T_lattice_Label_rep) a_0, (cond (S 8) (.obj true (z7α.1) 0 (.dat T_lattice_Label_rep) z8) ((cond (S 6) (.obj true (z7α.1) 0 (.dat T_lattice_Label_rep) T_lattice_Label_zero) (.gone)))), (cond (S 9) (.obj true (z7α.2) 0 (.dat T_lattice_Label_rep) z9) ((cond (S 7) (.obj true (z7α.2) 0 (.dat T_lattice_Label_rep) T_lattice_Label_zero) (.gone))))]) (0, 0) mixed (fun _ => rfl) rfl rfl (fun z7α S hS => hB z7α S true true true true (hS 6 (by decide)) (hS 7 (by decide)) (hS 8 (by decide)) (hS 9 (by decide))) ⟨?_, ?_, ?_, ?_, ?_, ?_, ?_, ?_, ?_, ?_, trivial⟩ (fun z7α => ?_)
    · intro z7α S hc hk hp
      have e8 : S 8 = false := (not_yet (j := 8) (q := 3) hc hk rfl rfl rfl rfl)
      have e9 : S 9 = false := (not_yet (j := 9) (q := 3) hc hk rfl rfl rfl rfl)
      refine eq_H (H' := [.obj true z3 0 (.dat T_lattice_Label_rep) c_2, .obj true z2 0 (.dat T_lattice_Label_rep) b_1, .obj true z1 0 (.dat T_lattice_Label_rep) a_0, (cond (S 6) (.obj true (z7α.1) 0 (.dat T_lattice_Label_rep) T_lattice_Label_zero) (.gone)), (cond (S 7) (.obj true (z7α.2) 0 (.dat T_lattice_Label_rep) T_lattice_Label_zero) (.gone))]) (by first | exact hB z7α S (S 6) (S 7) false false rfl rfl e8 e9 | (have q := hB z7α S (S 6) (S 7) false false rfl rfl e8 e9; simp only [cond_true, cond_false] at q; exact q)) ?_
      refine o_oloadi 2 rfl type48 foc_self rfl guard_none (look_o rfl rfl) (fun _ => rfl) ?_
      apply h_endA (α := z7α) (z7α.1, z7α.2)
      · exact (.same (.same (.same (.same (.same (.same (.same (.same (.same (.same .nil))))))))))
      · exact rfl
      · exact rfl
      · exact rfl
      · exact hB (z7α.1, z7α.2) (fun k => S k || Nat.beq k 0) (S 6) (S 7) false false (or_ne rfl) (or_ne rfl) (or_f e8 rfl) (or_f e9 rfl)
    · intro z7α S hc hk hp
      have e8 : S 8 = false := (not_yet (j := 8) (q := 4) hc hk rfl rfl rfl rfl)
      have e9 : S 9 = false := (not_yet (j := 9) (q := 4) hc hk rfl rfl rfl rfl)
      refine eq_H (H' := [.obj true z3 0 (.dat T_lattice_Label_rep) c_2, .obj true z2 0 (.dat T_lattice_Label_rep) b_1, .obj true z1 0 (.dat T_lattice_Label_rep) a_0, (cond (S 6) (.obj true (z7α.1) 0 (.dat T_lattice_Label_rep) T_lattice_Label_zero) (.gone)), (cond (S 7) (.obj true (z7α.2) 0 (.dat T_lattice_Label_rep) T_lattice_Label_zero) (.gone))]) (by first | exact hB z7α S (S 6) (S 7) false false rfl rfl e8 e9 | (have q := hB z7α S (S 6) (S 7) false false rfl rfl e8 e9; simp only [cond_true, cond_false] at q; exact q)) ?_
      refine o_oloadi 1 rfl type48 foc_self rfl guard_none (look_o rfl rfl) (fun _ => rfl) ?_
      apply h_endA (α := z7α) (z7α.1, z7α.2)
      · exact (.same (.same (.same (.same (.same (.same (.same (.same (.same (.same .nil))))))))))
      · exact rfl
      · exact rfl
      · exact rfl
      · exact hB (z7α.1, z7α.2) (fun k => S k || Nat.beq k 1) (S 6) (S 7) false false (or_ne rfl) (or_ne rfl) (or_f e8 rfl) (or_f e9 rfl)
    · intro z7α S hc hk hp
      have e8 : S 8 = false := (not_yet (j := 8) (q := 1) hc hk rfl rfl rfl rfl)
      have e9 : S 9 = false := (not_yet (j := 9) (q := 5) hc hk rfl rfl rfl rfl)
      refine eq_H (H' := [.obj true z3 0 (.dat T_lattice_Label_rep) c_2, .obj true z2 0 (.dat T_lattice_Label_rep) b_1, .obj true z1 0 (.dat T_lattice_Label_rep) a_0, (cond (S 6) (.obj true (z7α.1) 0 (.dat T_lattice_Label_rep) T_lattice_Label_zero) (.gone)), (cond (S 7) (.obj true (z7α.2) 0 (.dat T_lattice_Label_rep) T_lattice_Label_zero) (.gone))]) (by first | exact hB z7α S (S 6) (S 7) false false rfl rfl e8 e9 | (have q := hB z7α S (S 6) (S 7) false false rfl rfl e8 e9; simp only [cond_true, cond_false] at q; exact q)) ?_
      refine o_from (bind_eqO h_z8) ?_
      refine o_call rfl rfl rfl callable26 (looks_cons (look_d rfl rfl (pr hp 0 rfl rfl)) (fun _ => rfl) (looks_cons (look_d rfl rfl (pr hp 1 rfl rfl)) (fun _ => rfl) (looks_nil))) (lattice_Join_ok _ _) (o_eqO ?_)
      apply h_endA (α := z7α) (z7α.1, z7α.2)
      · exact (.same (.same (.same (.same (.same (.same (.same (.same (.same (.same .nil))))))))))
      · exact rfl
      · exact rfl
      · exact rfl
      · exact hB (z7α.1, z7α.2) (fun k => S k || Nat.beq k 2) (S 6) (S 7) false false (or_ne rfl) (or_ne rfl) (or_f e8 rfl) (or_f e9 rfl)
    · intro z7α S hc hk hp
      have e8 : S 8 = false := (not_yet (j := 8) (q := 2) hc (not_yet (j := 5) (q := 0) hc hk rfl rfl rfl rfl) rfl rfl rfl rfl)
      have e9 : S 9 = false := (not_yet (j := 9) (q := 6) hc hk rfl rfl rfl rfl)
      refine eq_H (H' := [.obj true z3 0 (.dat T_lattice_Label_rep) c_2, .obj true z2 0 (.dat T_lattice_Label_rep) b_1, .obj true z1 0 (.dat T_lattice_Label_rep) a_0, (cond (S 6) (.obj true (z7α.1) 0 (.dat T_lattice_Label_rep) T_lattice_Label_zero) (.gone)), (cond (S 7) (.obj true (z7α.2) 0 (.dat T_lattice_Label_rep) T_lattice_Label_zero) (.gone))]) (by first | exact hB z7α S (S 6) (S 7) false false rfl rfl e8 e9 | (have q := hB z7α S (S 6) (S 7) false false rfl rfl e8 e9; simp only [cond_true, cond_false] at q; exact q)) ?_
      refine o_oloadi 2 rfl type48 foc_self rfl guard_none (look_o rfl rfl) (fun _ => rfl) ?_
      apply h_endA (α := z7α) (z7α.1, z7α.2)
      · exact (.same (.same (.same (.same (.same (.same (.same (.same (.same (.same .nil))))))))))
      · exact rfl
      · exact rfl
      · exact rfl
      · exact hB (z7α.1, z7α.2) (fun k => S k || Nat.beq k 3) (S 6) (S 7) false false (or_ne rfl) (or_ne rfl) (or_f e8 rfl) (or_f e9 rfl)
    · intro z7α S hc hk hp
      have e8 : S 8 = false := (not_yet (j := 8) (q := 2) hc (not_yet (j := 5) (q := 1) hc hk rfl rfl rfl rfl) rfl rfl rfl rfl)
      have e9 : S 9 = false := (not_yet (j := 9) (q := 7) hc hk rfl rfl rfl rfl)
      refine eq_H (H' := [.obj true z3 0 (.dat T_lattice_Label_rep) c_2, .obj true z2 0 (.dat T_lattice_Label_rep) b_1, .obj true z1 0 (.dat T_lattice_Label_rep) a_0, (cond (S 6) (.obj true (z7α.1) 0 (.dat T_lattice_Label_rep) T_lattice_Label_zero) (.gone)), (cond (S 7) (.obj true (z7α.2) 0 (.dat T_lattice_Label_rep) T_lattice_Label_zero) (.gone))]) (by first | exact hB z7α S (S 6) (S 7) false false rfl rfl e8 e9 | (have q := hB z7α S (S 6) (S 7) false false rfl rfl e8 e9; simp only [cond_true, cond_false] at q; exact q)) ?_
      refine o_oloadi 1 rfl type48 foc_self rfl guard_none (look_o rfl rfl) (fun _ => rfl) ?_
      apply h_endA (α := z7α) (z7α.1, z7α.2)
      · exact (.same (.same (.same (.same (.same (.same (.same (.same (.same (.same .nil))))))))))
      · exact rfl
      · exact rfl
      · exact rfl
      · exact hB (z7α.1, z7α.2) (fun k => S k || Nat.beq k 4) (S 6) (S 7) false false (or_ne rfl) (or_ne rfl) (or_f e8 rfl) (or_f e9 rfl)
    · intro z7α S hc hk hp
      have e8 : S 8 = false := (not_yet (j := 8) (q := 2) hc hk rfl rfl rfl rfl)
      have e9 : S 9 = false := (not_yet (j := 9) (q := 1) hc hk rfl rfl rfl rfl)
      refine eq_H (H' := [.obj true z3 0 (.dat T_lattice_Label_rep) c_2, .obj true z2 0 (.dat T_lattice_Label_rep) b_1, .obj true z1 0 (.dat T_lattice_Label_rep) a_0, (cond (S 6) (.obj true (z7α.1) 0 (.dat T_lattice_Label_rep) T_lattice_Label_zero) (.gone)), (cond (S 7) (.obj true (z7α.2) 0 (.dat T_lattice_Label_rep) T_lattice_Label_zero) (.gone))]) (by first | exact hB z7α S (S 6) (S 7) false false rfl rfl e8 e9 | (have q := hB z7α S (S 6) (S 7) false false rfl rfl e8 e9; simp only [cond_true, cond_false] at q; exact q)) ?_
      refine o_from (bind_eqO h_z9) ?_
      refine o_call rfl rfl rfl callable27 (looks_cons (look_d rfl rfl (pr hp 0 rfl rfl)) (fun _ => rfl) (looks_cons (look_d rfl rfl (pr hp 1 rfl rfl)) (fun _ => rfl) (looks_nil))) (lattice_Meet_ok _ _) (o_eqO ?_)
      apply h_endA (α := z7α) (z7α.1, z7α.2)
      · exact (.same (.same (.same (.same (.same (.same (.same (.same (.same (.same .nil))))))))))
      · exact rfl
      · exact rfl
      · exact rfl
      · exact hB (z7α.1, z7α.2) (fun k => S k || Nat.beq k 5) (S 6) (S 7) false false (or_ne rfl) (or_ne rfl) (or_f e8 rfl) (or_f e9 rfl)
    · intro z7α S hc hk hp
      have e8 : S 8 = false := (not_yet (j := 8) (q := 0) hc hk rfl rfl rfl rfl)
      have e9 : S 9 = false := (not_yet (j := 9) (q := 9) hc hk rfl rfl rfl rfl)
      refine eq_H (H' := [.obj true z3 0 (.dat T_lattice_Label_rep) c_2, .obj true z2 0 (.dat T_lattice_Label_rep) b_1, .obj true z1 0 (.dat T_lattice_Label_rep) a_0, .gone, (cond (S 7) (.obj true (z7α.2) 0 (.dat T_lattice_Label_rep) T_lattice_Label_zero) (.gone))]) (by first | exact hB z7α S false (S 7) false false hk rfl e8 e9 | (have q := hB z7α S false (S 7) false false hk rfl e8 e9; simp only [cond_true, cond_false] at q; exact q)) ?_
      refine o_alloc zero48 rfl rfl (fun z10 => ?_)
      refine o_weak (H' := [.obj true z3 0 (.dat T_lattice_Label_rep) c_2, .obj true z2 0 (.dat T_lattice_Label_rep) b_1, .obj true z1 0 (.dat T_lattice_Label_rep) a_0, .obj true z10 0 (.dat T_lattice_Label_rep) T_lattice_Label_zero, (cond (S 7) (.obj true (z7α.2) 0 (.dat T_lattice_Label_rep) T_lattice_Label_zero) (.gone))]) (sub_pick [1, 2, 3, 0, 5] rfl rfl) ?_
      apply h_endA (α := z7α) (z10, z7α.2)
      · exact (.same (.same (.same (.same (.same (.same (.off hk (.same (.same (.same .nil))))))))))
      · exact rfl
      · exact rfl
      · exact rfl
      · exact hB (z10, z7α.2) (fun k => S k || Nat.beq k 6) true (S 7) false false (or_i rfl) (or_ne rfl) (or_f e8 rfl) (or_f e9 rfl)
    · intro z7α S hc hk hp
      have e8 : S 8 = false := (not_yet (j := 8) (q := 10) hc hk rfl rfl rfl rfl)
      have e9 : S 9 = false := (not_yet (j := 9) (q := 0) hc hk rfl rfl rfl rfl)
      refine eq_H (H' := [.obj true z3 0 (.dat T_lattice_Label_rep) c_2, .obj true z2 0 (.dat T_lattice_Label_rep) b_1, .obj true z1 0 (.dat T_lattice_Label_rep) a_0, (cond (S 6) (.obj true (z7α.1) 0 (.dat T_lattice_Label_rep) T_lattice_Label_zero) (.gone)), .gone]) (by first | exact hB z7α S (S 6) false false false rfl hk e8 e9 | (have q := hB z7α S (S 6) false false false rfl hk e8 e9; simp only [cond_true, cond_false] at q; exact q)) ?_
      refine o_alloc zero48 rfl rfl (fun z11 => ?_)
      refine o_weak (H' := [.obj true z3 0 (.dat T_lattice_Label_rep) c_2, .obj true z2 0 (.dat T_lattice_Label_rep) b_1, .obj true z1 0 (.dat T_lattice_Label_rep) a_0, (cond (S 6) (.obj true (z7α.1) 0 (.dat T_lattice_Label_rep) T_lattice_Label_zero) (.gone)), .obj true z11 0 (.dat T_lattice_Label_rep) T_lattice_Label_zero]) (sub_pick [1, 2, 3, 4, 0] rfl rfl) ?_
      apply h_endA (α := z7α) (z7α.1, z11)
      · exact (.same (.same (.same (.same (.same (.same (.same (.off hk (.same (.same .nil))))))))))
      · exact rfl
      · exact rfl
      · exact rfl
      · exact hB (z7α.1, z11) (fun k => S k || Nat.beq k 7) (S 6) true false false (or_ne rfl) (or_i rfl) (or_f e8 rfl) (or_f e9 rfl)
    · intro z7α S hc hk hp
      have e6 : S 6 = true := (pr hp 0 rfl rfl)
      have e7 : S 7 = true := (pr hp 10 rfl rfl)
      have e9 : S 9 = false := (not_yet (j := 9) (q := 2) hc hk rfl rfl rfl rfl)
      refine eq_H (H' := [.obj true z3 0 (.dat T_lattice_Label_rep) c_2, .obj true z2 0 (.dat T_lattice_Label_rep) b_1, .obj true z1 0 (.dat T_lattice_Label_rep) a_0, .obj true (z7α.1) 0 (.dat T_lattice_Label_rep) T_lattice_Label_zero, .obj true (z7α.2) 0 (.dat T_lattice_Label_rep) T_lattice_Label_zero]) (by first | exact hB z7α S true true false false e6 e7 hk e9 | (have q := hB z7α S true true false false e6 e7 hk e9; simp only [cond_true, cond_false] at q; exact q)) ?_
      refine o_weak (H' := [.obj true (z7α.1) 0 (.dat T_lattice_Label_rep) T_lattice_Label_zero, .obj true z3 0 (.dat T_lattice_Label_rep) c_2, .obj true z2 0 (.dat T_lattice_Label_rep) b_1, .obj true z1 0 (.dat T_lattice_Label_rep) a_0, .obj true (z7α.2) 0 (.dat T_lattice_Label_rep) T_lattice_Label_zero]) (sub_pick [3, 0, 1, 2, 4] rfl rfl) ?_
      refine o_ostore type48 foc_self guard_none (look_d rfl rfl (pr hp 0 rfl rfl)) (fun _ => rfl) (look_d rfl rfl (pr hp 1 rfl rfl)) (fun _ => rfl) ?_
      refine o_weak (H' := [.obj true z3 0 (.dat T_lattice_Label_rep) c_2, .obj true z2 0 (.dat T_lattice_Label_rep) b_1, .obj true z1 0 (.dat T_lattice_Label_rep) a_0, .obj true (z7α.1) 0 (.dat T_lattice_Label_rep) z8, .obj true (z7α.2) 0 (.dat T_lattice_Label_rep) T_lattice_Label_zero]) (sub_pick [1, 2, 3, 0, 4] rfl rfl) ?_
      refine h_none (n := 147) (d := 155) rfl rfl ?_
      apply h_endA (α := z7α) (z7α.1, z7α.2)
      · exact (.same (.same (.same (.same (.same (.same (.same (.same (.same (.same .nil))))))))))
      · exact rfl
      · exact rfl
      · exact rfl
      · exact hB (z7α.1, z7α.2) (fun k => S k || Nat.beq k 8) true true true false (or_t e6) (or_t e7) (or_i rfl) (or_f e9 rfl)
    · intro z7α S hc hk hp
      have e6 : S 6 = true := (pr hp 9 rfl rfl)
      have e7 : S 7 = true := (pr hp 0 rfl rfl)
      have e8 : S 8 = true := (pr hp 2 rfl rfl)
      refine eq_H (H' := [.obj true z3 0 (.dat T_lattice_Label_rep) c_2, .obj true z2 0 (.dat T_lattice_Label_rep) b_1, .obj true z1 0 (.dat T_lattice_Label_rep) a_0, .obj true (z7α.1) 0 (.dat T_lattice_Label_rep) z8, .obj true (z7α.2) 0 (.dat T_lattice_Label_rep) T_lattice_Label_zero]) (by first | exact hB z7α S true true true false e6 e7 e8 hk | (have q := hB z7α S true true true false e6 e7 e8 hk; simp only [cond_true, cond_false] at q; exact q)) ?_
      refine o_weak (H' := [.obj true (z7α.2) 0 (.dat T_lattice_Label_rep) T_lattice_Label_zero, .obj true z3 0 (.dat T_lattice_Label_rep) c_2, .obj true z2 0 (.dat T_lattice_Label_rep) b_1, .obj true z1 0 (.dat T_lattice_Label_rep) a_0, .obj true (z7α.1) 0 (.dat T_lattice_Label_rep) z8]) (sub_pick [4, 0, 1, 2, 3] rfl rfl) ?_
      refine o_ostore type48 foc_self guard_none (look_d rfl rfl (pr hp 0 rfl rfl)) (fun _ => rfl) (look_d rfl rfl (pr hp 1 rfl rfl)) (fun _ => rfl) ?_
      refine o_weak (H' := [.obj true z3 0 (.dat T_lattice_Label_rep) c_2, .obj true z2 0 (.dat T_lattice_Label_rep) b_1, .obj true z1 0 (.dat T_lattice_Label_rep) a_0, .obj true (z7α.1) 0 (.dat T_lattice_Label_rep) z8, .obj true (z7α.2) 0 (.dat T_lattice_Label_rep) z9]) (sub_pick [1, 2, 3, 4, 0] rfl rfl) ?_
      refine h_none (n := 147) (d := 156) rfl rfl ?_
      apply h_endA (α := z7α) (z7α.1, z7α.2)
      · exact (.same (.same (.same (.same (.same (.same (.same (.same (.same (.same .nil))))))))))
      · exact rfl
      · exact rfl
      · exact rfl
      · exact hB (z7α.1, z7α.2) (fun k => S k || Nat.beq k 9) true true true true (or_t e6) (or_t e7) (or_t e8) (or_i rfl)
    refine den_seq ?_
    refine den_region rfl ?_
    refine o_assign rfl rfl guard_none look_nil1 (fun _ => rfl) ?_
    refine o_assign rfl rfl guard_none look_nil1 (fun _ => rfl) ?_
    refine o_end ?_
    refine den_seq ?_
    refine den_region rfl ?_
    refine o_move rfl rfl guard_none (look_tmp rfl) (fun _ => rfl) ?_
    refine o_faddr field48_1 type46 (by decide) rfl rfl guard_none (look_tmp rfl) (fun _ => rfl) ?_
    refine o_oloadi 2 rfl type46 T_lattice_Label_foc1 rfl guard_none (look_tmp rfl) (fun _ => rfl) ?_
    refine o_weak (sub_nilvec (R := Rep.str) rfl) ?_
    refine o_append Try.underlying46 (info_i info9) (info_z info9) (info_all info9).2.1 rfl (info_all info9).2.2 rfl (look_tmp rfl) rfl (feeds_slice Try.underlying46 rfl (look_tmp rfl) rfl) (fun z13 z12 => ?_)
    refine o_assign rfl rfl guard_none (look_tmp rfl) (fun _ => rfl) ?_
    refine o_end ?_
    refine den_seq ?_
    refine den_region rfl ?_
    refine o_move rfl rfl guard_none (look_tmp rfl) (fun _ => rfl) ?_
    refine o_faddr field48_1 type46 (by decide) rfl rfl guard_none (look_tmp rfl) (fun _ => rfl) ?_
    refine o_oloadi 2 rfl type46 T_lattice_Label_foc1 rfl guard_none (look_tmp rfl) (fun _ => rfl) ?_
    refine o_append Try.underlying46 (info_i info9) (info_z info9) (info_all info9).2.1 rfl (info_all info9).2.2 rfl (look_tmp rfl) rfl (feeds_slice Try.underlying46 rfl (look_tmp rfl) rfl) (fun z15 z14 => ?_)
    refine o_assign rfl rfl guard_none (look_tmp rfl) (fun _ => rfl) ?_
    refine o_end ?_
    refine den_seq ?_
    refine den_seq ?_
    refine den_region rfl ?_
    refine o_assign rfl rfl guard_none (look_int rfl) (fun _ => rfl) ?_
    refine o_end ?_
    refine den_bindA (A := Value) (fun z16α z16 => [(3, ⟨Rep.addr, (z1, 0), true⟩), (4, ⟨Rep.addr, (z2, 0), true⟩), (5, ⟨Rep.addr, (z3, 0), true⟩), (7, ⟨Rep.bool, under6, true⟩), (8, ⟨Rep.addr, (z7α.1, 0), true⟩), (9, ⟨Rep.addr, (z7α.2, 0), true⟩), (10, ⟨Rep.val1, z15, true⟩), (11, ⟨Rep.val1, z16α, true⟩)]) (fun z16α z16 => [.vec z15 (Rep.str) z14, .obj true z3 0 (.dat T_lattice_Label_rep) c_2, .obj true z2 0 (.dat T_lattice_Label_rep) b_1, .obj true z1 0 (.dat T_lattice_Label_rep) a_0, .obj true z7α.1 0 (.dat T_lattice_Label_rep) z8, .obj true z7α.2 0 (.dat T_lattice_Label_rep) z9, .vec z16α (Rep.str) z16]) ?_ (fun z16α z16 => ?_)
    · refine den_block ?_
      refine den_loopA (A := Value) (law32_LatticeTells_L1b a_0 b_1) (fun z30α z30 => [(12, ⟨Rep.int .i64, z30.1, true⟩), (3, ⟨Rep.addr, (z1, 0), true⟩), (4, ⟨Rep.addr, (z2, 0), true⟩), (5, ⟨Rep.addr, (z3, 0), true⟩), (7, ⟨Rep.bool, under6, true⟩), (8, ⟨Rep.addr, (z7α.1, 0), true⟩), (9, ⟨Rep.addr, (z7α.2, 0), true⟩), (10, ⟨Rep.val1, z15, true⟩), (11, ⟨Rep.val1, z30α, true⟩)]) (fun z30α z30 => [.vec z15 (Rep.str) z14, .obj true z3 0 (.dat T_lattice_Label_rep) c_2, .obj true z2 0 (.dat T_lattice_Label_rep) b_1, .obj true z1 0 (.dat T_lattice_Label_rep) a_0, .obj true z7α.1 0 (.dat T_lattice_Label_rep) z8, .obj true z7α.2 0 (.dat T_lattice_Label_rep) z9, .vec z30α (Rep.str) z30.2]) (0, ([] : (List Bytes))) (Value.slice none 0 0) (fun z30α z30 => ?_) ((Sub.trans (sub_nilvec (R := Rep.str) rfl) (Sub.trans (sub_pick [1, 2, 3, 4, 5, 6, 0] rfl rfl) (sub_env (sube_cons rfl (sube_cons rfl (sube_cons rfl (sube_cons rfl (sube_cons rfl (sube_cons rfl (sube_cons rfl (sube_cons rfl (sube_cons rfl (sube_nil))))))))))))))
      refine den_seq ?_
      refine den_seq ?_
      refine den_region rfl ?_
      refine o_move rfl rfl guard_none (look_tmp rfl) (fun _ => rfl) ?_
      refine o_faddr field48_1 type46 (by decide) rfl rfl guard_none (look_tmp rfl) (fun _ => rfl) ?_
      refine o_oloadi 3 rfl type46 T_lattice_Label_foc1 rfl guard_none (look_tmp rfl) (fun _ => rfl) ?_
      refine o_llen Try.underlying46 rfl rfl guard_none (look_tmp rfl) (fun _ => rfl) ?_
      refine o_lss rfl rfl guard_none (look_tmp rfl) (look_tmp rfl) (fun _ => rfl) (fun _ => rfl) ?_
      refine o_end ?_
      refine den_cond (look_tmp rfl) ?_ ?_
      · refine den_skip ?_
        refine den_seq ?_
        refine den_block ?_
        refine den_seq ?_
        refine den_open (fun z31 h_z31 => ?_)
        refine den_open (fun z32 h_z32 => ?_)
        refine den_draw [(48, ⟨Rep.addr, (z2, 0 + 1), true⟩), (49, ⟨(Rep.str).slice, b_1.Groups, true⟩), (50, ⟨Rep.addr, (z1, 0 + 1), true⟩), (51, ⟨(Rep.str).slice, a_0.Groups, true⟩), (52, ⟨Rep.int .i64, z30.1, true⟩), (53, ⟨(Rep.str).ptrTo, z31, true⟩), (54, ⟨Rep.str, z31, true⟩), (55, ⟨Rep.bool, z32, true⟩)] mixed rfl rfl ⟨?_, ?_, ?_, ?_, ?_, ?_, ?_, ?_, trivial⟩ ?_
        · intro S hc hk hp
          refine o_faddr field48_1 type46 (by decide) rfl rfl guard_none (look_o rfl rfl) (fun _ => rfl) ?_
          exact d_end rfl rfl rfl
        · intro S hc hk hp
          refine o_oloadi 2 rfl type46 T_lattice_Label_foc1 rfl guard_none (look_d rfl rfl (pr hp 0 rfl rfl)) (fun _ => rfl) ?_
          exact d_end rfl rfl rfl
        · intro S hc hk hp
          refine o_faddr field48_1 type46 (by decide) rfl rfl guard_none (look_o rfl rfl) (fun _ => rfl) ?_
          exact d_end rfl rfl rfl
        · intro S hc hk hp
          refine o_oloadi 3 rfl type46 T_lattice_Label_foc1 rfl guard_none (look_d rfl rfl (pr hp 0 rfl rfl)) (fun _ => rfl) ?_
          exact d_end rfl rfl rfl
        · intro S hc hk hp
          refine o_move rfl rfl guard_none (look_o rfl rfl) (fun _ => rfl) ?_
          exact d_end rfl rfl rfl
        · intro S hc hk hp
          refine o_from (bind_eqO h_z31) ?_
          refine o_iaddr Try.underlying46 type9 rfl rfl (look_d rfl rfl (pr hp 0 rfl rfl)) (look_d rfl rfl (pr hp 1 rfl rfl)) rfl rfl (o_eqO ?_)
          exact d_end rfl rfl rfl
        · intro S hc hk hp
          refine o_load type9 rfl rfl guard_none (look_d rfl rfl (pr hp 0 rfl rfl)) (fun _ => rfl) ?_
          exact d_end rfl rfl rfl
        · intro S hc hk hp
          refine o_from (bind_eqO h_z32) ?_
          refine o_call rfl rfl rfl callable28 (looks_cons (look_d rfl rfl (pr hp 0 rfl rfl)) (fun _ => rfl) (looks_cons (look_d rfl rfl (pr hp 1 rfl rfl)) (fun _ => rfl) (looks_nil))) (plain_In_ok _ _) (o_eqO ?_)
          exact d_end rfl rfl rfl
        refine den_cond (look_tmp rfl) ?_ ?_
        · refine den_region rfl ?_
          refine o_move rfl rfl guard_none (look_tmp rfl) (fun _ => rfl) ?_
          refine o_faddr field48_1 type46 (by decide) rfl rfl guard_none (look_tmp rfl) (fun _ => rfl) ?_
          refine o_oloadi 3 rfl type46 T_lattice_Label_foc1 rfl guard_none (look_tmp rfl) (fun _ => rfl) ?_
          refine o_move rfl rfl guard_none (look_tmp rfl) (fun _ => rfl) ?_
          refine o_iaddr Try.underlying46 type9 rfl rfl (look_tmp rfl) (look_tmp rfl) rfl rfl (fun z33 => ?_)
          refine o_load type9 rfl rfl guard_none (look_tmp rfl) (fun _ => rfl) ?_
          refine o_bslice Try.underlying46 (info_i info9) (info_z info9) type9 rfl rfl rfl rfl rfl rfl guard_none (looksL_cons (look_tmp rfl) (fun _ => rfl) (looksL_nil)) ?_
          refine o_weak (H' := [.vec z30α (Rep.str) z30.2, .vec z15 (Rep.str) z14, .obj true z3 0 (.dat T_lattice_Label_rep) c_2, .obj true z2 0 (.dat T_lattice_Label_rep) b_1, .obj true z1 0 (.dat T_lattice_Label_rep) a_0, .obj true z7α.1 0 (.dat T_lattice_Label_rep) z8, .obj true z7α.2 0 (.dat T_lattice_Label_rep) z9]) (sub_pick [6, 0, 1, 2, 3, 4, 5] rfl rfl) ?_
          refine o_append Try.underlying46 (info_i info9) (info_z info9) (info_all info9).2.1 rfl (info_all info9).2.2 rfl (look_tmp rfl) rfl (feeds_slice Try.underlying46 rfl (look_tmp rfl) rfl) (fun z35 z34 => ?_)
          refine o_assign rfl rfl guard_none (look_tmp rfl) (fun _ => rfl) ?_
          refine o_end ?_
          refine den_blkend ?_
          refine den_region rfl ?_
          refine o_move rfl rfl guard_none (look_tmp rfl) (fun _ => rfl) ?_
          refine o_add rfl rfl guard_none (look_tmp rfl) (look_int rfl) (fun _ => rfl) (fun _ => rfl) ?_
          refine o_assign rfl rfl guard_none (look_tmp rfl) (fun _ => rfl) ?_
          refine o_end ?_
          refine den_nextA z35 ((Sub.trans (sub_pick [1, 2, 3, 4, 5, 6, 0] rfl rfl) (sub_env (sube_cons rfl (sube_cons rfl (sube_cons rfl (sube_cons rfl (sube_cons rfl (sube_cons rfl (sube_cons rfl (sube_cons rfl (sube_cons rfl (sube_nil)))))))))))))
        · refine den_skip ?_
          refine den_blkend ?_
          refine den_region rfl ?_
          refine o_move rfl rfl guard_none (look_tmp rfl) (fun _ => rfl) ?_
          refine o_add rfl rfl guard_none (look_tmp rfl) (look_int rfl) (fun _ => rfl) (fun _ => rfl) ?_
          refine o_assign rfl rfl guard_none (look_tmp rfl) (fun _ => rfl) ?_
          refine o_end ?_
          refine den_nextA z30α ((sub_env (sube_cons rfl (sube_cons rfl (sube_cons rfl (sube_cons rfl (sube_cons rfl (sube_cons rfl (sube_cons rfl (sube_cons rfl (sube_cons rfl (sube_nil))))))))))))
      · refine den_code_exit ?_
        refine dene_out rfl ?_
        refine dene_loopA (by simp) ?_
        refine dene_to rfl ?_
        refine den_endA z30α ((sub_env (sube_cons rfl (sube_cons rfl (sube_cons rfl (sube_cons rfl (sube_cons rfl (sube_cons rfl (sube_cons rfl (sube_cons rfl (sube_nil)))))))))))
    refine den_seq ?_
    refine den_seq ?_
    refine den_weak (sub_freeze (s := 10) rfl) ?_
    refine den_weak (H' := [.vec z16α (Rep.str) z16, .obj true z3 0 (.dat T_lattice_Label_rep) c_2, .obj true z2 0 (.dat T_lattice_Label_rep) b_1, .obj true z1 0 (.dat T_lattice_Label_rep) a_0, .obj true z7α.1 0 (.dat T_lattice_Label_rep) z8, .obj true z7α.2 0 (.dat T_lattice_Label_rep) z9]) (sub_pick [5, 0, 1, 2, 3, 4] rfl rfl) ?_
    refine den_weak (sub_freeze (s := 11) rfl) ?_
    refine den_open (fun z18 h_z18 => ?_)
    refine den_open (fun z19 h_z19 => ?_)
    refine den_open (fun z20 h_z20 => ?_)
    refine den_open (fun z21 h_z21 => ?_)
    have hB : ∀ (z17α : Unit) (S : Nat → Bool) , (([.obj true z3 0 (.dat T_lattice_Label_rep) c_2, .obj true z2 0 (.dat T_lattice_Label_rep) b_1, .obj true z1 0 (.dat T_lattice_Label_rep) a_0, .obj true z7α.1 0 (.dat T_lattice_Label_rep) z8, .obj true z7α.2 0 (.dat T_lattice_Label_rep) z9] : List Go.Eng.Item)) = ([.obj true z3 0 (.dat T_lattice_Label_rep) c_2, .obj true z2 0 (.dat T_lattice_Label_rep) b_1, .obj true z1 0 (.dat T_lattice_Label_rep) a_0, .obj true z7α.1 0 (.dat T_lattice_Label_rep) z8, .obj true z7α.2 0 (.dat T_lattice_Label_rep) z9] : List Go.Eng.Item) := fun z17α S => by rfl
    refine den_drawA (A := Unit) (H' := fun z17α => [.obj true z3 0 (.dat T_lattice_Label_rep) c_2, .obj true z2 0 (.dat T_lattice_Label_rep) b_1, .obj true z1 0 (.dat T_lattice_Label_rep) a_0, .obj true z7α.1 0 (.dat T_lattice_Label_rep) z8, .obj true z7α.2 0 (.dat T_lattice_Label_rep) z9]) (fun z17α => [(64, ⟨T_lattice_Label_rep, z8, true⟩), (65, ⟨Rep.addr, (z1, 0), true⟩), (66, ⟨Rep.int .i64, a_0.Level, true⟩), (67, ⟨Rep.addr, (z2, 0), true⟩), (68, ⟨Rep.int .i64, b_1.Level, true⟩), (69, ⟨Rep.int .i64, max a_0.Level b_1.Level, true⟩), (70, ⟨(Rep.str).slice, z14, true⟩), (71, ⟨(Rep.str).slice, z18, true⟩), (72, ⟨T_lattice_Label_rep, (⟨max a_0.Level b_1.Level, z18⟩ : T_lattice_Label), true⟩), (73, ⟨Rep.bool, z19, true⟩), (74, ⟨Rep.bool, !z19, true⟩), (75, ⟨Rep.bool, !z19, true⟩), (76, ⟨T_lattice_Label_rep, z9, (true && ((!z19) == false))⟩), (77, ⟨Rep.addr, (z1, 0), (true && ((!z19) == false))⟩), (78, ⟨Rep.int .i64, a_0.Level, (true && ((!z19) == false))⟩), (79, ⟨Rep.addr, (z2, 0), (true && ((!z19) == false))⟩), (80, ⟨Rep.int .i64, b_1.Level, (true && ((!z19) == false))⟩), (81, ⟨Rep.int .i64, min a_0.Level b_1.Level, (true && ((!z19) == false))⟩), (82, ⟨(Rep.str).slice, z16, (true && ((!z19) == false))⟩), (83, ⟨(Rep.str).slice, z20, (true && ((!z19) == false))⟩), (84, ⟨T_lattice_Label_rep, (⟨min a_0.Level b_1.Level, z20⟩ : T_lattice_Label), (true && ((!z19) == false))⟩), (85, ⟨Rep.bool, z21, (true && ((!z19) == false))⟩), (86, ⟨Rep.bool, !z21, (true && ((!z19) == false))⟩), (87, ⟨Rep.bool, cond (!z19) true (!z21), true⟩)]) (fun z17α S => [.obj true z3 0 (.dat T_lattice_Label_rep) c_2, .obj true z2 0 (.dat T_lattice_Label_rep) b_1, .obj true z1 0 (.dat T_lattice_Label_rep) a_0, .obj true z7α.1 0 (.dat T_lattice_Label_rep) z8, .obj true z7α.2 0 (.dat T_lattice_Label_rep) z9]) () mixed (fun _ => rfl) rfl rfl (fun z17α S hS => hB z17α S ) ⟨?_, ?_, ?_, ?_, ?_, ?_, ?_, ?_, ?_, ?_, ?_, ?_, ?_, ?_, ?_, ?_, ?_, ?_, ?_, ?_, ?_, ?_, ?_, ?_, trivial⟩ (fun z17α => ?_)
    · intro z17α S hc hk hp
      refine o_oloadi 3 rfl type48 foc_self rfl guard_none (look_o rfl rfl) (fun _ => rfl) ?_
      apply h_endA (α := z17α) ()
      · exact (.same (.same (.same (.same (.same (.same (.same (.same (.same (.same (.same (.same (.same (.same (.same (.same (.same (.same (.same (.same (.same (.same (.same (.same .nil))))))))))))))))))))))))
      · exact rfl
      · exact rfl
      · exact rfl
      · exact hB () (fun k => S k || Nat.beq k 0) 
    · intro z17α S hc hk hp
      refine o_faddr field48_0 type3 (by decide) rfl rfl guard_none (look_o rfl rfl) (fun _ => rfl) ?_
      apply h_endA (α := z17α) ()
      · exact (.same (.same (.same (.same (.same (.same (.same (.same (.same (.same (.same (.same (.same (.same (.same (.same (.same (.same (.same (.same (.same (.same (.same (.same .nil))))))))))))))))))))))))
      · exact rfl
      · exact rfl
      · exact rfl
      · exact hB () (fun k => S k || Nat.beq k 1) 
    · intro z17α S hc hk hp
      refine o_oloadi 2 rfl type3 T_lattice_Label_foc0 rfl guard_none (look_d rfl rfl (pr hp 0 rfl rfl)) (fun _ => rfl) ?_
      apply h_endA (α := z17α) ()
      · exact (.same (.same (.same (.same (.same (.same (.same (.same (.same (.same (.same (.same (.same (.same (.same (.same (.same (.same (.same (.same (.same (.same (.same (.same .nil))))))))))))))))))))))))
      · exact rfl
      · exact rfl
      · exact rfl
      · exact hB () (fun k => S k || Nat.beq k 2) 
    · intro z17α S hc hk hp
      refine o_faddr field48_0 type3 (by decide) rfl rfl guard_none (look_o rfl rfl) (fun _ => rfl) ?_
      apply h_endA (α := z17α) ()
      · exact (.same (.same (.same (.same (.same (.same (.same (.same (.same (.same (.same (.same (.same (.same (.same (.same (.same (.same (.same (.same (.same (.same (.same (.same .nil))))))))))))))))))))))))
      · exact rfl
      · exact rfl
      · exact rfl
      · exact hB () (fun k => S k || Nat.beq k 3) 
    · intro z17α S hc hk hp
      refine o_oloadi 1 rfl type3 T_lattice_Label_foc0 rfl guard_none (look_d rfl rfl (pr hp 0 rfl rfl)) (fun _ => rfl) ?_
      apply h_endA (α := z17α) ()
      · exact (.same (.same (.same (.same (.same (.same (.same (.same (.same (.same (.same (.same (.same (.same (.same (.same (.same (.same (.same (.same (.same (.same (.same (.same .nil))))))))))))))))))))))))
      · exact rfl
      · exact rfl
      · exact rfl
      · exact hB () (fun k => S k || Nat.beq k 4) 
    · intro z17α S hc hk hp
      refine o_max2 rfl rfl guard_none (look_d rfl rfl (pr hp 0 rfl rfl)) (look_d rfl rfl (pr hp 1 rfl rfl)) (fun _ => rfl) (fun _ => rfl) ?_
      apply h_endA (α := z17α) ()
      · exact (.same (.same (.same (.same (.same (.same (.same (.same (.same (.same (.same (.same (.same (.same (.same (.same (.same (.same (.same (.same (.same (.same (.same (.same .nil))))))))))))))))))))))))
      · exact rfl
      · exact rfl
      · exact rfl
      · exact hB () (fun k => S k || Nat.beq k 5) 
    · intro z17α S hc hk hp
      refine o_move rfl rfl guard_none (look_o rfl rfl) (fun _ => rfl) ?_
      apply h_endA (α := z17α) ()
      · exact (.same (.same (.same (.same (.same (.same (.same (.same (.same (.same (.same (.same (.same (.same (.same (.same (.same (.same (.same (.same (.same (.same (.same (.same .nil))))))))))))))))))))))))
      · exact rfl
      · exact rfl
      · exact rfl
      · exact hB () (fun k => S k || Nat.beq k 6) 
    · intro z17α S hc hk hp
      refine o_from (bind_eqO h_z18) ?_
      refine o_call rfl rfl rfl callable30 (looks_cons (look_d rfl rfl (pr hp 0 rfl rfl)) (fun _ => rfl) (looks_nil)) (plain_Rising_ok _) (o_eqO ?_)
      apply h_endA (α := z17α) ()
      · exact (.same (.same (.same (.same (.same (.same (.same (.same (.same (.same (.same (.same (.same (.same (.same (.same (.same (.same (.same (.same (.same (.same (.same (.same .nil))))))))))))))))))))))))
      · exact rfl
      · exact rfl
      · exact rfl
      · exact hB () (fun k => S k || Nat.beq k 7) 
    · intro z17α S hc hk hp
      refine o_build (R := T_lattice_Label_rep0) (f := T_lattice_Label_tup) (y := (⟨max a_0.Level b_1.Level, z18⟩ : T_lattice_Label)) shape48 rfl rfl rfl rfl guard_none (bld_part rfl rfl (look_d rfl rfl (pr hp 0 rfl rfl)) (fun _ => rfl) (bld_part rfl rfl (look_d rfl rfl (pr hp 1 rfl rfl)) (fun _ => rfl) (bld_nil))) ?_
      apply h_endA (α := z17α) ()
      · exact (.same (.same (.same (.same (.same (.same (.same (.same (.same (.same (.same (.same (.same (.same (.same (.same (.same (.same (.same (.same (.same (.same (.same (.same .nil))))))))))))))))))))))))
      · exact rfl
      · exact rfl
      · exact rfl
      · exact hB () (fun k => S k || Nat.beq k 8) 
    · intro z17α S hc hk hp
      refine o_from (bind_eqO h_z19) ?_
      refine o_call rfl rfl rfl callable29 (looks_cons (look_d rfl rfl (pr hp 0 rfl rfl)) (fun _ => rfl) (looks_cons (look_d rfl rfl (pr hp 1 rfl rfl)) (fun _ => rfl) (looks_nil))) (law32_same_ok _ _) (o_eqO ?_)
      apply h_endA (α := z17α) ()
      · exact (.same (.same (.same (.same (.same (.same (.same (.same (.same (.same (.same (.same (.same (.same (.same (.same (.same (.same (.same (.same (.same (.same (.same (.same .nil))))))))))))))))))))))))
      · exact rfl
      · exact rfl
      · exact rfl
      · exact hB () (fun k => S k || Nat.beq k 9) 
    · intro z17α S hc hk hp
      refine o_not rfl rfl guard_none (look_d rfl rfl (pr hp 0 rfl rfl)) (fun _ => rfl) ?_
      apply h_endA (α := z17α) ()
      · exact (.same (.same (.same (.same (.same (.same (.same (.same (.same (.same (.same (.same (.same (.same (.same (.same (.same (.same (.same (.same (.same (.same (.same (.same .nil))))))))))))))))))))))))
      · exact rfl
      · exact rfl
      · exact rfl
      · exact hB () (fun k => S k || Nat.beq k 10) 
    · intro z17α S hc hk hp
      refine o_move rfl rfl guard_none (look_d rfl rfl (pr hp 0 rfl rfl)) (fun _ => rfl) ?_
      apply h_endA (α := z17α) ()
      · exact (.same (.same (.same (.same (.same (.same (.same (.same (.same (.same (.same (.same (.same (.same (.same (.same (.same (.same (.same (.same (.same (.same (.same (.same .nil))))))))))))))))))))))))
      · exact rfl
      · exact rfl
      · exact rfl
      · exact hB () (fun k => S k || Nat.beq k 11) 
    · intro z17α S hc hk hp
      refine o_oloadi 4 rfl type48 foc_self rfl (guard_d rfl rfl rfl rfl (pr hp 0 rfl rfl)) (look_o rfl rfl) (fun _ => rfl) ?_
      apply h_endA (α := z17α) ()
      · exact (.same (.same (.same (.same (.same (.same (.same (.same (.same (.same (.same (.same (.same (.same (.same (.same (.same (.same (.same (.same (.same (.same (.same (.same .nil))))))))))))))))))))))))
      · exact rfl
      · exact rfl
      · exact rfl
      · exact hB () (fun k => S k || Nat.beq k 12) 
    · intro z17α S hc hk hp
      refine o_faddr field48_0 type3 (by decide) rfl rfl (guard_d rfl rfl rfl rfl (pr hp 0 rfl rfl)) (look_o rfl rfl) (fun _ => rfl) ?_
      apply h_endA (α := z17α) ()
      · exact (.same (.same (.same (.same (.same (.same (.same (.same (.same (.same (.same (.same (.same (.same (.same (.same (.same (.same (.same (.same (.same (.same (.same (.same .nil))))))))))))))))))))))))
      · exact rfl
      · exact rfl
      · exact rfl
      · exact hB () (fun k => S k || Nat.beq k 13) 
    · intro z17α S hc hk hp
      refine o_oloadi 2 rfl type3 T_lattice_Label_foc0 rfl (guard_d rfl rfl rfl rfl (pr hp 1 rfl rfl)) (look_d rfl rfl (pr hp 0 rfl rfl)) (fun h => h) ?_
      apply h_endA (α := z17α) ()
      · exact (.same (.same (.same (.same (.same (.same (.same (.same (.same (.same (.same (.same (.same (.same (.same (.same (.same (.same (.same (.same (.same (.same (.same (.same .nil))))))))))))))))))))))))
      · exact rfl
      · exact rfl
      · exact rfl
      · exact hB () (fun k => S k || Nat.beq k 14) 
    · intro z17α S hc hk hp
      refine o_faddr field48_0 type3 (by decide) rfl rfl (guard_d rfl rfl rfl rfl (pr hp 0 rfl rfl)) (look_o rfl rfl) (fun _ => rfl) ?_
      apply h_endA (α := z17α) ()
      · exact (.same (.same (.same (.same (.same (.same (.same (.same (.same (.same (.same (.same (.same (.same (.same (.same (.same (.same (.same (.same (.same (.same (.same (.same .nil))))))))))))))))))))))))
      · exact rfl
      · exact rfl
      · exact rfl
      · exact hB () (fun k => S k || Nat.beq k 15) 
    · intro z17α S hc hk hp
      refine o_oloadi 1 rfl type3 T_lattice_Label_foc0 rfl (guard_d rfl rfl rfl rfl (pr hp 1 rfl rfl)) (look_d rfl rfl (pr hp 0 rfl rfl)) (fun h => h) ?_
      apply h_endA (α := z17α) ()
      · exact (.same (.same (.same (.same (.same (.same (.same (.same (.same (.same (.same (.same (.same (.same (.same (.same (.same (.same (.same (.same (.same (.same (.same (.same .nil))))))))))))))))))))))))
      · exact rfl
      · exact rfl
      · exact rfl
      · exact hB () (fun k => S k || Nat.beq k 16) 
    · intro z17α S hc hk hp
      refine o_min2 rfl rfl (guard_d rfl rfl rfl rfl (pr hp 2 rfl rfl)) (look_d rfl rfl (pr hp 0 rfl rfl)) (look_d rfl rfl (pr hp 1 rfl rfl)) (fun h => h) (fun h => h) ?_
      apply h_endA (α := z17α) ()
      · exact (.same (.same (.same (.same (.same (.same (.same (.same (.same (.same (.same (.same (.same (.same (.same (.same (.same (.same (.same (.same (.same (.same (.same (.same .nil))))))))))))))))))))))))
      · exact rfl
      · exact rfl
      · exact rfl
      · exact hB () (fun k => S k || Nat.beq k 17) 
    · intro z17α S hc hk hp
      refine o_move rfl rfl (guard_d rfl rfl rfl rfl (pr hp 0 rfl rfl)) (look_o rfl rfl) (fun _ => rfl) ?_
      apply h_endA (α := z17α) ()
      · exact (.same (.same (.same (.same (.same (.same (.same (.same (.same (.same (.same (.same (.same (.same (.same (.same (.same (.same (.same (.same (.same (.same (.same (.same .nil))))))))))))))))))))))))
      · exact rfl
      · exact rfl
      · exact rfl
      · exact hB () (fun k => S k || Nat.beq k 18) 
    · intro z17α S hc hk hp
      refine o_from (bind_eqO h_z20) ?_
      refine o_callg rfl rfl rfl (guard_d rfl rfl rfl rfl (pr hp 1 rfl rfl)) callable30 (looks_cons (look_d rfl rfl (pr hp 0 rfl rfl)) (fun h => h) (looks_nil)) (plain_Rising_ok _) (o_eqO ?_)
      apply h_endA (α := z17α) ()
      · exact (.same (.same (.same (.same (.same (.same (.same (.same (.same (.same (.same (.same (.same (.same (.same (.same (.same (.same (.same (.same (.same (.same (.same (.same .nil))))))))))))))))))))))))
      · exact rfl
      · exact rfl
      · exact rfl
      · exact hB () (fun k => S k || Nat.beq k 19) 
    · intro z17α S hc hk hp
      refine o_build (R := T_lattice_Label_rep0) (f := T_lattice_Label_tup) (y := (⟨min a_0.Level b_1.Level, z20⟩ : T_lattice_Label)) shape48 rfl rfl rfl rfl (guard_d rfl rfl rfl rfl (pr hp 2 rfl rfl)) (bld_part rfl rfl (look_d rfl rfl (pr hp 0 rfl rfl)) (fun h => h) (bld_part rfl rfl (look_d rfl rfl (pr hp 1 rfl rfl)) (fun h => h) (bld_nil))) ?_
      apply h_endA (α := z17α) ()
      · exact (.same (.same (.same (.same (.same (.same (.same (.same (.same (.same (.same (.same (.same (.same (.same (.same (.same (.same (.same (.same (.same (.same (.same (.same .nil))))))))))))))))))))))))
      · exact rfl
      · exact rfl
      · exact rfl
      · exact hB () (fun k => S k || Nat.beq k 20) 
    · intro z17α S hc hk hp
      refine o_from (bind_eqO h_z21) ?_
      refine o_callg rfl rfl rfl (guard_d rfl rfl rfl rfl (pr hp 3 rfl rfl)) callable29 (looks_cons (look_d rfl rfl (pr hp 0 rfl rfl)) (fun h => h) (looks_cons (look_d rfl rfl (pr hp 1 rfl rfl)) (fun h => h) (looks_nil))) (law32_same_ok _ _) (o_eqO ?_)
      apply h_endA (α := z17α) ()
      · exact (.same (.same (.same (.same (.same (.same (.same (.same (.same (.same (.same (.same (.same (.same (.same (.same (.same (.same (.same (.same (.same (.same (.same (.same .nil))))))))))))))))))))))))
      · exact rfl
      · exact rfl
      · exact rfl
      · exact hB () (fun k => S k || Nat.beq k 21) 
    · intro z17α S hc hk hp
      refine o_not rfl rfl (guard_d rfl rfl rfl rfl (pr hp 1 rfl rfl)) (look_d rfl rfl (pr hp 0 rfl rfl)) (fun h => h) ?_
      apply h_endA (α := z17α) ()
      · exact (.same (.same (.same (.same (.same (.same (.same (.same (.same (.same (.same (.same (.same (.same (.same (.same (.same (.same (.same (.same (.same (.same (.same (.same .nil))))))))))))))))))))))))
      · exact rfl
      · exact rfl
      · exact rfl
      · exact hB () (fun k => S k || Nat.beq k 22) 
    · intro z17α S hc hk hp
      refine o_pick rfl rfl guard_none (look_d rfl rfl (pr hp 0 rfl rfl)) look_bool (look_d rfl rfl (pr hp 1 rfl rfl)) (fun _ => rfl) (fun _ _ => rfl) (fun h1 h2 => pick_f ((fun _ => rfl) h1) h2) ?_
      apply h_endA (α := z17α) ()
      · exact (.same (.same (.same (.same (.same (.same (.same (.same (.same (.same (.same (.same (.same (.same (.same (.same (.same (.same (.same (.same (.same (.same (.same (.same .nil))))))))))))))))))))))))
      · exact rfl
      · exact rfl
      · exact rfl
      · exact hB () (fun k => S k || Nat.beq k 23) 
    refine den_cond (look_tmp rfl) ?_ ?_
    · refine den_seq ?_
      refine den_region rfl ?_
      refine o_assign rfl rfl guard_none look_bool (fun _ => rfl) ?_
      refine o_end ?_
      refine den_code_ret ?_
      refine dene_ret ?_
      exact dene_res (res1 rfl (rv_tmp rfl))
    · refine den_skip ?_
      refine den_seq ?_
      refine den_open (fun z22 h_z22 => ?_)
      refine den_open (fun z23 h_z23 => ?_)
      refine den_open (fun z24 h_z24 => ?_)
      refine den_open (fun z25 h_z25 => ?_)
      refine den_open (fun z26 h_z26 => ?_)
      refine den_open (fun z27 h_z27 => ?_)
      refine den_open (fun z28 h_z28 => ?_)
      refine den_open (fun z29 h_z29 => ?_)
      refine den_draw [(88, ⟨T_lattice_Label_rep, a_0, true⟩), (89, ⟨Rep.int .i64, z22, true⟩), (90, ⟨T_lattice_Label_rep, a_0, true⟩), (91, ⟨Rep.int .i64, z23, true⟩), (92, ⟨Rep.bool, z22 == z23, true⟩), (93, ⟨Rep.bool, z22 == z23, true⟩), (94, ⟨T_lattice_Label_rep, a_0, (true && ((z22 == z23) == true))⟩), (95, ⟨T_lattice_Label_rep, b_1, (true && ((z22 == z23) == true))⟩), (96, ⟨Rep.bool, z24, (true && ((z22 == z23) == true))⟩), (97, ⟨Rep.bool, under6, (true && ((z22 == z23) == true))⟩), (98, ⟨Rep.bool, z24 == under6, (true && ((z22 == z23) == true))⟩), (99, ⟨Rep.bool, cond (z22 == z23) (z24 == under6) false, true⟩), (100, ⟨Rep.bool, cond (z22 == z23) (z24 == under6) false, true⟩), (101, ⟨T_lattice_Label_rep, a_0, (true && ((cond (z22 == z23) (z24 == under6) false) == true))⟩), (102, ⟨T_lattice_Label_rep, b_1, (true && ((cond (z22 == z23) (z24 == under6) false) == true))⟩), (103, ⟨Rep.bool, z25, (true && ((cond (z22 == z23) (z24 == under6) false) == true))⟩), (104, ⟨Rep.bool, under6, (true && ((cond (z22 == z23) (z24 == under6) false) == true))⟩), (105, ⟨Rep.bool, z25 == under6, (true && ((cond (z22 == z23) (z24 == under6) false) == true))⟩), (106, ⟨Rep.bool, cond (cond (z22 == z23) (z24 == under6) false) (z25 == under6) false, true⟩), (107, ⟨Rep.bool, cond (cond (z22 == z23) (z24 == under6) false) (z25 == under6) false, true⟩), (108, ⟨T_lattice_Label_rep, b_1, (true && ((cond (cond (z22 == z23) (z24 == under6) false) (z25 == under6) false) == true))⟩), (109, ⟨T_lattice_Label_rep, a_0, (true && ((cond (cond (z22 == z23) (z24 == under6) false) (z25 == under6) false) == true))⟩), (110, ⟨Rep.bool, z26, (true && ((cond (cond (z22 == z23) (z24 == under6) false) (z25 == under6) false) == true))⟩), (111, ⟨Rep.bool, under6, (true && ((cond (cond (z22 == z23) (z24 == under6) false) (z25 == under6) false) == true))⟩), (112, ⟨Rep.bool, z26 == under6, (true && ((cond (cond (z22 == z23) (z24 == under6) false) (z25 == under6) false) == true))⟩), (113, ⟨Rep.bool, cond (cond (cond (z22 == z23) (z24 == under6) false) (z25 == under6) false) (z26 == under6) false, true⟩), (114, ⟨Rep.bool, cond (cond (cond (z22 == z23) (z24 == under6) false) (z25 == under6) false) (z26 == under6) false, true⟩), (115, ⟨T_lattice_Label_rep, a_0, (true && ((cond (cond (cond (z22 == z23) (z24 == under6) false) (z25 == under6) false) (z26 == under6) false) == true))⟩), (116, ⟨T_lattice_Label_rep, b_1, (true && ((cond (cond (cond (z22 == z23) (z24 == under6) false) (z25 == under6) false) (z26 == under6) false) == true))⟩), (117, ⟨T_lattice_Label_rep, c_2, (true && ((cond (cond (cond (z22 == z23) (z24 == under6) false) (z25 == under6) false) (z26 == under6) false) == true))⟩), (118, ⟨Rep.bool, z27, (true && ((cond (cond (cond (z22 == z23) (z24 == under6) false) (z25 == under6) false) (z26 == under6) false) == true))⟩), (119, ⟨Rep.addr, (z1, 0), (true && ((cond (cond (cond (z22 == z23) (z24 == under6) false) (z25 == under6) false) (z26 == under6) false) == true))⟩), (120, ⟨Rep.int .i64, a_0.Level, (true && ((cond (cond (cond (z22 == z23) (z24 == under6) false) (z25 == under6) false) (z26 == under6) false) == true))⟩), (121, ⟨Rep.addr, (z3, 0), (true && ((cond (cond (cond (z22 == z23) (z24 == under6) false) (z25 == under6) false) (z26 == under6) false) == true))⟩), (122, ⟨Rep.int .i64, c_2.Level, (true && ((cond (cond (cond (z22 == z23) (z24 == under6) false) (z25 == under6) false) (z26 == under6) false) == true))⟩), (123, ⟨Rep.bool, decide (a_0.Level ≤ c_2.Level), (true && ((cond (cond (cond (z22 == z23) (z24 == under6) false) (z25 == under6) false) (z26 == under6) false) == true))⟩), (124, ⟨Rep.bool, decide (a_0.Level ≤ c_2.Level), (true && ((cond (cond (cond (z22 == z23) (z24 == under6) false) (z25 == under6) false) (z26 == under6) false) == true))⟩), (125, ⟨Rep.addr, (z3, 0), ((true && ((cond (cond (cond (z22 == z23) (z24 == under6) false) (z25 == under6) false) (z26 == under6) false) == true)) && ((decide (a_0.Level ≤ c_2.Level)) == true))⟩), (126, ⟨Rep.int .i64, c_2.Level, ((true && ((cond (cond (cond (z22 == z23) (z24 == under6) false) (z25 == under6) false) (z26 == under6) false) == true)) && ((decide (a_0.Level ≤ c_2.Level)) == true))⟩), (127, ⟨Rep.addr, (z2, 0), ((true && ((cond (cond (cond (z22 == z23) (z24 == under6) false) (z25 == under6) false) (z26 == under6) false) == true)) && ((decide (a_0.Level ≤ c_2.Level)) == true))⟩), (128, ⟨Rep.int .i64, b_1.Level, ((true && ((cond (cond (cond (z22 == z23) (z24 == under6) false) (z25 == under6) false) (z26 == under6) false) == true)) && ((decide (a_0.Level ≤ c_2.Level)) == true))⟩), (129, ⟨Rep.bool, decide (c_2.Level ≤ b_1.Level), ((true && ((cond (cond (cond (z22 == z23) (z24 == under6) false) (z25 == under6) false) (z26 == under6) false) == true)) && ((decide (a_0.Level ≤ c_2.Level)) == true))⟩), (130, ⟨Rep.bool, cond (decide (a_0.Level ≤ c_2.Level)) (decide (c_2.Level ≤ b_1.Level)) false, (true && ((cond (cond (cond (z22 == z23) (z24 == under6) false) (z25 == under6) false) (z26 == under6) false) == true))⟩), (131, ⟨Rep.bool, cond (decide (a_0.Level ≤ c_2.Level)) (decide (c_2.Level ≤ b_1.Level)) false, (true && ((cond (cond (cond (z22 == z23) (z24 == under6) false) (z25 == under6) false) (z26 == under6) false) == true))⟩), (132, ⟨Rep.addr, (z1, 0 + 1), ((true && ((cond (cond (cond (z22 == z23) (z24 == under6) false) (z25 == under6) false) (z26 == under6) false) == true)) && ((cond (decide (a_0.Level ≤ c_2.Level)) (decide (c_2.Level ≤ b_1.Level)) false) == true))⟩), (133, ⟨(Rep.str).slice, a_0.Groups, ((true && ((cond (cond (cond (z22 == z23) (z24 == under6) false) (z25 == under6) false) (z26 == under6) false) == true)) && ((cond (decide (a_0.Level ≤ c_2.Level)) (decide (c_2.Level ≤ b_1.Level)) false) == true))⟩), (134, ⟨Rep.addr, (z3, 0 + 1), ((true && ((cond (cond (cond (z22 == z23) (z24 == under6) false) (z25 == under6) false) (z26 == under6) false) == true)) && ((cond (decide (a_0.Level ≤ c_2.Level)) (decide (c_2.Level ≤ b_1.Level)) false) == true))⟩), (135, ⟨(Rep.str).slice, c_2.Groups, ((true && ((cond (cond (cond (z22 == z23) (z24 == under6) false) (z25 == under6) false) (z26 == under6) false) == true)) && ((cond (decide (a_0.Level ≤ c_2.Level)) (decide (c_2.Level ≤ b_1.Level)) false) == true))⟩), (136, ⟨Rep.bool, z28, ((true && ((cond (cond (cond (z22 == z23) (z24 == under6) false) (z25 == under6) false) (z26 == under6) false) == true)) && ((cond (decide (a_0.Level ≤ c_2.Level)) (decide (c_2.Level ≤ b_1.Level)) false) == true))⟩), (137, ⟨Rep.bool, cond (cond (decide (a_0.Level ≤ c_2.Level)) (decide (c_2.Level ≤ b_1.Level)) false) z28 false, (true && ((cond (cond (cond (z22 == z23) (z24 == under6) false) (z25 == under6) false) (z26 == under6) false) == true))⟩), (138, ⟨Rep.bool, cond (cond (decide (a_0.Level ≤ c_2.Level)) (decide (c_2.Level ≤ b_1.Level)) false) z28 false, (true && ((cond (cond (cond (z22 == z23) (z24 == under6) false) (z25 == under6) false) (z26 == under6) false) == true))⟩), (139, ⟨Rep.addr, (z3, 0 + 1), ((true && ((cond (cond (cond (z22 == z23) (z24 == under6) false) (z25 == under6) false) (z26 == under6) false) == true)) && ((cond (cond (decide (a_0.Level ≤ c_2.Level)) (decide (c_2.Level ≤ b_1.Level)) false) z28 false) == true))⟩), (140, ⟨(Rep.str).slice, c_2.Groups, ((true && ((cond (cond (cond (z22 == z23) (z24 == under6) false) (z25 == under6) false) (z26 == under6) false) == true)) && ((cond (cond (decide (a_0.Level ≤ c_2.Level)) (decide (c_2.Level ≤ b_1.Level)) false) z28 false) == true))⟩), (141, ⟨Rep.addr, (z2, 0 + 1), ((true && ((cond (cond (cond (z22 == z23) (z24 == under6) false) (z25 == under6) false) (z26 == under6) false) == true)) && ((cond (cond (decide (a_0.Level ≤ c_2.Level)) (decide (c_2.Level ≤ b_1.Level)) false) z28 false) == true))⟩), (142, ⟨(Rep.str).slice, b_1.Groups, ((true && ((cond (cond (cond (z22 == z23) (z24 == under6) false) (z25 == under6) false) (z26 == under6) false) == true)) && ((cond (cond (decide (a_0.Level ≤ c_2.Level)) (decide (c_2.Level ≤ b_1.Level)) false) z28 false) == true))⟩), (143, ⟨Rep.bool, z29, ((true && ((cond (cond (cond (z22 == z23) (z24 == under6) false) (z25 == under6) false) (z26 == under6) false) == true)) && ((cond (cond (decide (a_0.Level ≤ c_2.Level)) (decide (c_2.Level ≤ b_1.Level)) false) z28 false) == true))⟩), (144, ⟨Rep.bool, cond (cond (cond (decide (a_0.Level ≤ c_2.Level)) (decide (c_2.Level ≤ b_1.Level)) false) z28 false) z29 false, (true && ((cond (cond (cond (z22 == z23) (z24 == under6) false) (z25 == under6) false) (z26 == under6) false) == true))⟩), (145, ⟨Rep.bool, z27 == (cond (cond (cond (decide (a_0.Level ≤ c_2.Level)) (decide (c_2.Level ≤ b_1.Level)) false) z28 false) z29 false), (true && ((cond (cond (cond (z22 == z23) (z24 == under6) false) (z25 == under6) false) (z26 == under6) false) == true))⟩), (146, ⟨Rep.bool, cond (cond (cond (cond (z22 == z23) (z24 == under6) false) (z25 == under6) false) (z26 == under6) false) (z27 == (cond (cond (cond (decide (a_0.Level ≤ c_2.Level)) (decide (c_2.Level ≤ b_1.Level)) false) z28 false) z29 false)) false, true⟩), (6, ⟨Rep.bool, cond (cond (cond (cond (z22 == z23) (z24 == under6) false) (z25 == under6) false) (z26 == under6) false) (z27 == (cond (cond (cond (decide (a_0.Level ≤ c_2.Level)) (decide (c_2.Level ≤ b_1.Level)) false) z28 false) z29 false)) false, true⟩)] mixed rfl rfl ⟨?_, ?_, ?_, ?_, ?_, ?_, ?_, ?_, ?_, ?_, ?_, ?_, ?_, ?_, ?_, ?_, ?_, ?_, ?_, ?_, ?_, ?_, ?_, ?_, ?_, ?_, ?_, ?_, ?_, ?_, ?_, ?_, ?_, ?_, ?_, ?_, ?_, ?_, ?_, ?_, ?_, ?_, ?_, ?_, ?_, ?_, ?_, ?_, ?_, ?_, ?_, ?_, ?_, ?_, ?_, ?_, ?_, ?_, ?_, ?_, trivial⟩ ?_
      · intro S hc hk hp
        refine o_oloadi 2 rfl type48 foc_self rfl guard_none (look_o rfl rfl) (fun _ => rfl) ?_
        exact d_end rfl rfl rfl
      · intro S hc hk hp
        refine o_from (bind_eqO h_z22) ?_
        refine o_call rfl rfl rfl callable31 (looks_cons (look_d rfl rfl (pr hp 0 rfl rfl)) (fun _ => rfl) (looks_nil)) (lattice_Check_ok _) (o_eqO ?_)
        exact d_end rfl rfl rfl
      · intro S hc hk hp
        refine o_oloadi 2 rfl type48 foc_self rfl guard_none (look_o rfl rfl) (fun _ => rfl) ?_
        exact d_end rfl rfl rfl
      · intro S hc hk hp
        refine o_from (bind_eqO h_z23) ?_
        refine o_call rfl rfl rfl callable32 (looks_cons (look_d rfl rfl (pr hp 0 rfl rfl)) (fun _ => rfl) (looks_nil)) (law32_may_ok _) (o_eqO ?_)
        exact d_end rfl rfl rfl
      · intro S hc hk hp
        refine o_eql rfl rfl guard_none (look_d rfl rfl (pr hp 0 rfl rfl)) (look_d rfl rfl (pr hp 1 rfl rfl)) (fun _ => rfl) (fun _ => rfl) ?_
        exact d_end rfl rfl rfl
      · intro S hc hk hp
        refine o_move rfl rfl guard_none (look_d rfl rfl (pr hp 0 rfl rfl)) (fun _ => rfl) ?_
        exact d_end rfl rfl rfl
      · intro S hc hk hp
        refine o_oloadi 2 rfl type48 foc_self rfl (guard_d rfl rfl rfl rfl (pr hp 0 rfl rfl)) (look_o rfl rfl) (fun _ => rfl) ?_
        exact d_end rfl rfl rfl
      · intro S hc hk hp
        refine o_oloadi 1 rfl type48 foc_self rfl (guard_d rfl rfl rfl rfl (pr hp 0 rfl rfl)) (look_o rfl rfl) (fun _ => rfl) ?_
        exact d_end rfl rfl rfl
      · intro S hc hk hp
        refine o_from (bind_eqO h_z24) ?_
        refine o_callg rfl rfl rfl (guard_d rfl rfl rfl rfl (pr hp 2 rfl rfl)) callable33 (looks_cons (look_d rfl rfl (pr hp 0 rfl rfl)) (fun h => h) (looks_cons (look_d rfl rfl (pr hp 1 rfl rfl)) (fun h => h) (looks_nil))) (lattice_Under_ok _ _) (o_eqO ?_)
        exact d_end rfl rfl rfl
      · intro S hc hk hp
        refine o_move rfl rfl (guard_d rfl rfl rfl rfl (pr hp 0 rfl rfl)) (look_o rfl rfl) (fun _ => rfl) ?_
        exact d_end rfl rfl rfl
      · intro S hc hk hp
        refine o_beql Try.underlying4 rfl rfl (guard_d rfl rfl rfl rfl (pr hp 2 rfl rfl)) (look_d rfl rfl (pr hp 0 rfl rfl)) (look_d rfl rfl (pr hp 1 rfl rfl)) (fun h => h) (fun h => h) ?_
        exact d_end rfl rfl rfl
      · intro S hc hk hp
        refine o_pick rfl rfl guard_none (look_d rfl rfl (pr hp 0 rfl rfl)) (look_d rfl rfl (pr hp 1 rfl rfl)) look_bool (fun _ => rfl) (fun h1 h2 => pick_t ((fun _ => rfl) h1) h2) (fun _ _ => rfl) ?_
        exact d_end rfl rfl rfl
      · intro S hc hk hp
        refine o_move rfl rfl guard_none (look_d rfl rfl (pr hp 0 rfl rfl)) (fun _ => rfl) ?_
        exact d_end rfl rfl rfl
      · intro S hc hk hp
        refine o_oloadi 2 rfl type48 foc_self rfl (guard_d rfl rfl rfl rfl (pr hp 0 rfl rfl)) (look_o rfl rfl) (fun _ => rfl) ?_
        exact d_end rfl rfl rfl
      · intro S hc hk hp
        refine o_oloadi 1 rfl type48 foc_self rfl (guard_d rfl rfl rfl rfl (pr hp 0 rfl rfl)) (look_o rfl rfl) (fun _ => rfl) ?_
        exact d_end rfl rfl rfl
      · intro S hc hk hp
        refine o_from (bind_eqO h_z25) ?_
        refine o_callg rfl rfl rfl (guard_d rfl rfl rfl rfl (pr hp 2 rfl rfl)) callable34 (looks_cons (look_d rfl rfl (pr hp 0 rfl rfl)) (fun h => h) (looks_cons (look_d rfl rfl (pr hp 1 rfl rfl)) (fun h => h) (looks_nil))) (lattice_Write_ok _ _) (o_eqO ?_)
        exact d_end rfl rfl rfl
      · intro S hc hk hp
        refine o_move rfl rfl (guard_d rfl rfl rfl rfl (pr hp 0 rfl rfl)) (look_o rfl rfl) (fun _ => rfl) ?_
        exact d_end rfl rfl rfl
      · intro S hc hk hp
        refine o_beql Try.underlying4 rfl rfl (guard_d rfl rfl rfl rfl (pr hp 2 rfl rfl)) (look_d rfl rfl (pr hp 0 rfl rfl)) (look_d rfl rfl (pr hp 1 rfl rfl)) (fun h => h) (fun h => h) ?_
        exact d_end rfl rfl rfl
      · intro S hc hk hp
        refine o_pick rfl rfl guard_none (look_d rfl rfl (pr hp 0 rfl rfl)) (look_d rfl rfl (pr hp 1 rfl rfl)) look_bool (fun _ => rfl) (fun h1 h2 => pick_t ((fun _ => rfl) h1) h2) (fun _ _ => rfl) ?_
        exact d_end rfl rfl rfl
      · intro S hc hk hp
        refine o_move rfl rfl guard_none (look_d rfl rfl (pr hp 0 rfl rfl)) (fun _ => rfl) ?_
        exact d_end rfl rfl rfl
      · intro S hc hk hp
        refine o_oloadi 1 rfl type48 foc_self rfl (guard_d rfl rfl rfl rfl (pr hp 0 rfl rfl)) (look_o rfl rfl) (fun _ => rfl) ?_
        exact d_end rfl rfl rfl
      · intro S hc hk hp
        refine o_oloadi 2 rfl type48 foc_self rfl (guard_d rfl rfl rfl rfl (pr hp 0 rfl rfl)) (look_o rfl rfl) (fun _ => rfl) ?_
        exact d_end rfl rfl rfl
      · intro S hc hk hp
        refine o_from (bind_eqO h_z26) ?_
        refine o_callg rfl rfl rfl (guard_d rfl rfl rfl rfl (pr hp 2 rfl rfl)) callable35 (looks_cons (look_d rfl rfl (pr hp 0 rfl rfl)) (fun h => h) (looks_cons (look_d rfl rfl (pr hp 1 rfl rfl)) (fun h => h) (looks_nil))) (lattice_Read_ok _ _) (o_eqO ?_)
        exact d_end rfl rfl rfl
      · intro S hc hk hp
        refine o_move rfl rfl (guard_d rfl rfl rfl rfl (pr hp 0 rfl rfl)) (look_o rfl rfl) (fun _ => rfl) ?_
        exact d_end rfl rfl rfl
      · intro S hc hk hp
        refine o_beql Try.underlying4 rfl rfl (guard_d rfl rfl rfl rfl (pr hp 2 rfl rfl)) (look_d rfl rfl (pr hp 0 rfl rfl)) (look_d rfl rfl (pr hp 1 rfl rfl)) (fun h => h) (fun h => h) ?_
        exact d_end rfl rfl rfl
      · intro S hc hk hp
        refine o_pick rfl rfl guard_none (look_d rfl rfl (pr hp 0 rfl rfl)) (look_d rfl rfl (pr hp 1 rfl rfl)) look_bool (fun _ => rfl) (fun h1 h2 => pick_t ((fun _ => rfl) h1) h2) (fun _ _ => rfl) ?_
        exact d_end rfl rfl rfl
      · intro S hc hk hp
        refine o_move rfl rfl guard_none (look_d rfl rfl (pr hp 0 rfl rfl)) (fun _ => rfl) ?_
        exact d_end rfl rfl rfl
      · intro S hc hk hp
        refine o_oloadi 2 rfl type48 foc_self rfl (guard_d rfl rfl rfl rfl (pr hp 0 rfl rfl)) (look_o rfl rfl) (fun _ => rfl) ?_
        exact d_end rfl rfl rfl
      · intro S hc hk hp
        refine o_oloadi 1 rfl type48 foc_self rfl (guard_d rfl rfl rfl rfl (pr hp 0 rfl rfl)) (look_o rfl rfl) (fun _ => rfl) ?_
        exact d_end rfl rfl rfl
      · intro S hc hk hp
        refine o_oloadi 0 rfl type48 foc_self rfl (guard_d rfl rfl rfl rfl (pr hp 0 rfl rfl)) (look_o rfl rfl) (fun _ => rfl) ?_
        exact d_end rfl rfl rfl
      · intro S hc hk hp
        refine o_from (bind_eqO h_z27) ?_
        refine o_callg rfl rfl rfl (guard_d rfl rfl rfl rfl (pr hp 3 rfl rfl)) callable36 (looks_cons (look_d rfl rfl (pr hp 0 rfl rfl)) (fun h => h) (looks_cons (look_d rfl rfl (pr hp 1 rfl rfl)) (fun h => h) (looks_cons (look_d rfl rfl (pr hp 2 rfl rfl)) (fun h => h) (looks_nil)))) (lattice_Range_ok _ _ _) (o_eqO ?_)
        exact d_end rfl rfl rfl
      · intro S hc hk hp
        refine o_faddr field48_0 type3 (by decide) rfl rfl (guard_d rfl rfl rfl rfl (pr hp 0 rfl rfl)) (look_o rfl rfl) (fun _ => rfl) ?_
        exact d_end rfl rfl rfl
      · intro S hc hk hp
        refine o_oloadi 2 rfl type3 T_lattice_Label_foc0 rfl (guard_d rfl rfl rfl rfl (pr hp 1 rfl rfl)) (look_d rfl rfl (pr hp 0 rfl rfl)) (fun h => h) ?_
        exact d_end rfl rfl rfl
      · intro S hc hk hp
        refine o_faddr field48_0 type3 (by decide) rfl rfl (guard_d rfl rfl rfl rfl (pr hp 0 rfl rfl)) (look_o rfl rfl) (fun _ => rfl) ?_
        exact d_end rfl rfl rfl
      · intro S hc hk hp
        refine o_oloadi 0 rfl type3 T_lattice_Label_foc0 rfl (guard_d rfl rfl rfl rfl (pr hp 1 rfl rfl)) (look_d rfl rfl (pr hp 0 rfl rfl)) (fun h => h) ?_
        exact d_end rfl rfl rfl
      · intro S hc hk hp
        refine o_leq rfl rfl (guard_d rfl rfl rfl rfl (pr hp 2 rfl rfl)) (look_d rfl rfl (pr hp 0 rfl rfl)) (look_d rfl rfl (pr hp 1 rfl rfl)) (fun h => h) (fun h => h) ?_
        exact d_end rfl rfl rfl
      · intro S hc hk hp
        refine o_move rfl rfl (guard_d rfl rfl rfl rfl (pr hp 2 rfl rfl)) (look_d rfl rfl (pr hp 0 rfl rfl)) (fun h => h) ?_
        exact d_end rfl rfl rfl
      · intro S hc hk hp
        refine o_faddr field48_0 type3 (by decide) rfl rfl (guard_d rfl rfl rfl rfl (pr hp 0 rfl rfl)) (look_o rfl rfl) (fun _ => rfl) ?_
        exact d_end rfl rfl rfl
      · intro S hc hk hp
        refine o_oloadi 0 rfl type3 T_lattice_Label_foc0 rfl (guard_d rfl rfl rfl rfl (pr hp 1 rfl rfl)) (look_d rfl rfl (pr hp 0 rfl rfl)) (fun h => h) ?_
        exact d_end rfl rfl rfl
      · intro S hc hk hp
        refine o_faddr field48_0 type3 (by decide) rfl rfl (guard_d rfl rfl rfl rfl (pr hp 0 rfl rfl)) (look_o rfl rfl) (fun _ => rfl) ?_
        exact d_end rfl rfl rfl
      · intro S hc hk hp
        refine o_oloadi 1 rfl type3 T_lattice_Label_foc0 rfl (guard_d rfl rfl rfl rfl (pr hp 1 rfl rfl)) (look_d rfl rfl (pr hp 0 rfl rfl)) (fun h => h) ?_
        exact d_end rfl rfl rfl
      · intro S hc hk hp
        refine o_leq rfl rfl (guard_d rfl rfl rfl rfl (pr hp 2 rfl rfl)) (look_d rfl rfl (pr hp 0 rfl rfl)) (look_d rfl rfl (pr hp 1 rfl rfl)) (fun h => h) (fun h => h) ?_
        exact d_end rfl rfl rfl
      · intro S hc hk hp
        refine o_pick rfl rfl (guard_d rfl rfl rfl rfl (pr hp 2 rfl rfl)) (look_d rfl rfl (pr hp 0 rfl rfl)) (look_d rfl rfl (pr hp 1 rfl rfl)) look_bool (fun h => h) (fun h1 h2 => pick_t ((fun h => h) h1) h2) (fun _ _ => rfl) ?_
        exact d_end rfl rfl rfl
      · intro S hc hk hp
        refine o_move rfl rfl (guard_d rfl rfl rfl rfl (pr hp 2 rfl rfl)) (look_d rfl rfl (pr hp 0 rfl rfl)) (fun h => h) ?_
        exact d_end rfl rfl rfl
      · intro S hc hk hp
        refine o_faddr field48_1 type46 (by decide) rfl rfl (guard_d rfl rfl rfl rfl (pr hp 0 rfl rfl)) (look_o rfl rfl) (fun _ => rfl) ?_
        exact d_end rfl rfl rfl
      · intro S hc hk hp
        refine o_oloadi 2 rfl type46 T_lattice_Label_foc1 rfl (guard_d rfl rfl rfl rfl (pr hp 1 rfl rfl)) (look_d rfl rfl (pr hp 0 rfl rfl)) (fun h => h) ?_
        exact d_end rfl rfl rfl
      · intro S hc hk hp
        refine o_faddr field48_1 type46 (by decide) rfl rfl (guard_d rfl rfl rfl rfl (pr hp 0 rfl rfl)) (look_o rfl rfl) (fun _ => rfl) ?_
        exact d_end rfl rfl rfl
      · intro S hc hk hp
        refine o_oloadi 0 rfl type46 T_lattice_Label_foc1 rfl (guard_d rfl rfl rfl rfl (pr hp 1 rfl rfl)) (look_d rfl rfl (pr hp 0 rfl rfl)) (fun h => h) ?_
        exact d_end rfl rfl rfl
      · intro S hc hk hp
        refine o_from (bind_eqO h_z28) ?_
        refine o_callg rfl rfl rfl (guard_d rfl rfl rfl rfl (pr hp 2 rfl rfl)) callable25 (looks_cons (look_d rfl rfl (pr hp 0 rfl rfl)) (fun h => h) (looks_cons (look_d rfl rfl (pr hp 1 rfl rfl)) (fun h => h) (looks_nil))) (law32_all_ok _ _) (o_eqO ?_)
        exact d_end rfl rfl rfl
      · intro S hc hk hp
        refine o_pick rfl rfl (guard_d rfl rfl rfl rfl (pr hp 2 rfl rfl)) (look_d rfl rfl (pr hp 0 rfl rfl)) (look_d rfl rfl (pr hp 1 rfl rfl)) look_bool (fun h => h) (fun h1 h2 => pick_t ((fun h => h) h1) h2) (fun _ _ => rfl) ?_
        exact d_end rfl rfl rfl
      · intro S hc hk hp
        refine o_move rfl rfl (guard_d rfl rfl rfl rfl (pr hp 2 rfl rfl)) (look_d rfl rfl (pr hp 0 rfl rfl)) (fun h => h) ?_
        exact d_end rfl rfl rfl
      · intro S hc hk hp
        refine o_faddr field48_1 type46 (by decide) rfl rfl (guard_d rfl rfl rfl rfl (pr hp 0 rfl rfl)) (look_o rfl rfl) (fun _ => rfl) ?_
        exact d_end rfl rfl rfl
      · intro S hc hk hp
        refine o_oloadi 0 rfl type46 T_lattice_Label_foc1 rfl (guard_d rfl rfl rfl rfl (pr hp 1 rfl rfl)) (look_d rfl rfl (pr hp 0 rfl rfl)) (fun h => h) ?_
        exact d_end rfl rfl rfl
      · intro S hc hk hp
        refine o_faddr field48_1 type46 (by decide) rfl rfl (guard_d rfl rfl rfl rfl (pr hp 0 rfl rfl)) (look_o rfl rfl) (fun _ => rfl) ?_
        exact d_end rfl rfl rfl
      · intro S hc hk hp
        refine o_oloadi 1 rfl type46 T_lattice_Label_foc1 rfl (guard_d rfl rfl rfl rfl (pr hp 1 rfl rfl)) (look_d rfl rfl (pr hp 0 rfl rfl)) (fun h => h) ?_
        exact d_end rfl rfl rfl
      · intro S hc hk hp
        refine o_from (bind_eqO h_z29) ?_
        refine o_callg rfl rfl rfl (guard_d rfl rfl rfl rfl (pr hp 2 rfl rfl)) callable25 (looks_cons (look_d rfl rfl (pr hp 0 rfl rfl)) (fun h => h) (looks_cons (look_d rfl rfl (pr hp 1 rfl rfl)) (fun h => h) (looks_nil))) (law32_all_ok _ _) (o_eqO ?_)
        exact d_end rfl rfl rfl
      · intro S hc hk hp
        refine o_pick rfl rfl (guard_d rfl rfl rfl rfl (pr hp 2 rfl rfl)) (look_d rfl rfl (pr hp 0 rfl rfl)) (look_d rfl rfl (pr hp 1 rfl rfl)) look_bool (fun h => h) (fun h1 h2 => pick_t ((fun h => h) h1) h2) (fun _ _ => rfl) ?_
        exact d_end rfl rfl rfl
      · intro S hc hk hp
        refine o_beql Try.underlying4 rfl rfl (guard_d rfl rfl rfl rfl (pr hp 2 rfl rfl)) (look_d rfl rfl (pr hp 0 rfl rfl)) (look_d rfl rfl (pr hp 1 rfl rfl)) (fun h => h) (fun h => h) ?_
        exact d_end rfl rfl rfl
      · intro S hc hk hp
        refine o_pick rfl rfl guard_none (look_d rfl rfl (pr hp 0 rfl rfl)) (look_d rfl rfl (pr hp 1 rfl rfl)) look_bool (fun _ => rfl) (fun h1 h2 => pick_t ((fun _ => rfl) h1) h2) (fun _ _ => rfl) ?_
        exact d_end rfl rfl rfl
      · intro S hc hk hp
        refine o_assign rfl rfl guard_none (look_d rfl rfl (pr hp 0 rfl rfl)) (fun _ => rfl) ?_
        exact d_end rfl rfl rfl
      refine den_code_ret ?_
      exact dene_res (res1 rfl (rv_tmp rfl))

theorem law32_LatticeLaws_ok  (a_0 : T_lattice_Label) (b_1 : T_lattice_Label) (c_2 : T_lattice_Label) : FunOk Try.prog 8 [⟨T_lattice_Label_rep, a_0, true⟩, ⟨T_lattice_Label_rep, b_1, true⟩, ⟨T_lattice_Label_rep, c_2, true⟩] (law32_LatticeLaws a_0 b_1 c_2) (Rep.bool) := by
  refine fun_ok Try.func8 rfl Try.ntmps8 rfl (all_cons rfl (all_cons rfl (all_cons rfl all_nil))) (fun w0 ok0 => ?_)
  refine den_seq ?_
  refine den_region rfl ?_
  refine o_box rfl rfl (look_tmp rfl) rfl (fun z1 => ?_)
  refine o_box rfl rfl (look_tmp rfl) rfl (fun z2 => ?_)
  refine o_box rfl rfl (look_tmp rfl) rfl (fun z3 => ?_)
  refine o_assign rfl rfl guard_none look_bool (fun _ => rfl) ?_
  refine o_end ?_
  refine den_seq ?_
  refine den_seq ?_
  refine den_region rfl ?_
  refine o_call rfl rfl rfl callable24 (looks_nil) (law32_alive_ok) (fun z4 => ?_)
  refine o_not rfl rfl guard_none (look_tmp rfl) (fun _ => rfl) ?_
  refine o_end ?_
  refine den_cond (look_tmp rfl) ?_ ?_
  · refine den_seq ?_
    refine den_region rfl ?_
    refine o_assign rfl rfl guard_none look_bool (fun _ => rfl) ?_
    refine o_end ?_
    refine den_code_ret ?_
    refine dene_ret ?_
    exact dene_res (res1 rfl (rv_tmp rfl))
  · refine den_skip ?_
    refine den_seq ?_
    refine den_seq ?_
    refine den_region rfl ?_
    refine o_oloadi 2 rfl type48 foc_self rfl guard_none (look_tmp rfl) (fun _ => rfl) ?_
    refine o_call rfl rfl rfl callable32 (looks_cons (look_tmp rfl) (fun _ => rfl) (looks_nil)) (law32_may_ok _) (fun z5 => ?_)
    refine o_neq rfl rfl guard_none (look_tmp rfl) (look_int rfl) (fun _ => rfl) (fun _ => rfl) ?_
    refine o_move rfl rfl guard_none (look_tmp rfl) (fun _ => rfl) ?_
    refine o_oloadi 1 rfl type48 foc_self rfl (guard_some rfl rfl rfl) (look_tmp rfl) (fun _ => rfl) ?_
    refine o_callg rfl rfl rfl (guard_some rfl rfl rfl) callable32 (looks_cons (look_tmp rfl) (fun h => h) (looks_nil)) (law32_may_ok _) (fun z6 => ?_)
    refine o_neq rfl rfl (guard_some rfl rfl rfl) (look_tmp rfl) (look_int rfl) (fun h => h) (fun _ => rfl) ?_
    refine o_pick rfl rfl guard_none (look_tmp rfl) look_bool (look_tmp rfl) (fun _ => rfl) (fun _ _ => rfl) (fun h1 h2 => pick_f ((fun _ => rfl) h1) h2) ?_
    refine o_move rfl rfl guard_none (look_tmp rfl) (fun _ => rfl) ?_
    refine o_oloadi 0 rfl type48 foc_self rfl (guard_some rfl rfl rfl) (look_tmp rfl) (fun _ => rfl) ?_
    refine o_callg rfl rfl rfl (guard_some rfl rfl rfl) callable32 (looks_cons (look_tmp rfl) (fun h => h) (looks_nil)) (law32_may_ok _) (fun z7 => ?_)
    refine o_neq rfl rfl (guard_some rfl rfl rfl) (look_tmp rfl) (look_int rfl) (fun h => h) (fun _ => rfl) ?_
    refine o_pick rfl rfl guard_none (look_tmp rfl) look_bool (look_tmp rfl) (fun _ => rfl) (fun _ _ => rfl) (fun h1 h2 => pick_f ((fun _ => rfl) h1) h2) ?_
    refine o_end ?_
    refine den_cond (look_tmp rfl) ?_ ?_
    · refine den_seq ?_
      refine den_region rfl ?_
      refine o_assign rfl rfl guard_none look_bool (fun _ => rfl) ?_
      refine o_end ?_
      refine den_code_ret ?_
      refine dene_ret ?_
      exact dene_res (res1 rfl (rv_tmp rfl))
    · refine den_skip ?_
      refine den_seq ?_
      refine den_seq ?_
      refine den_open (fun z8 h_z8 => ?_)
      refine den_open (fun z9 h_z9 => ?_)
      refine den_open (fun z10 h_z10 => ?_)
      refine den_open (fun z11 h_z11 => ?_)
      refine den_open (fun z12 h_z12 => ?_)
      refine den_open (fun z13 h_z13 => ?_)
      refine den_open (fun z14 h_z14 => ?_)
      refine den_open (fun z15 h_z15 => ?_)
      refine den_open (fun z16 h_z16 => ?_)
      refine den_open (fun z17 h_z17 => ?_)
      refine den_draw [(22, ⟨T_lattice_Label_rep, a_0, true⟩), (23, ⟨T_lattice_Label_rep, b_1, true⟩), (24, ⟨T_lattice_Label_rep, z8, true⟩), (25, ⟨T_lattice_Label_rep, b_1, true⟩), (26, ⟨T_lattice_Label_rep, a_0, true⟩), (27, ⟨T_lattice_Label_rep, z9, true⟩), (28, ⟨Rep.bool, z10, true⟩), (29, ⟨Rep.bool, !z10, true⟩), (30, ⟨Rep.bool, !z10, true⟩), (31, ⟨T_lattice_Label_rep, a_0, (true && ((!z10) == false))⟩), (32, ⟨T_lattice_Label_rep, b_1, (true && ((!z10) == false))⟩), (33, ⟨T_lattice_Label_rep, z11, (true && ((!z10) == false))⟩), (34, ⟨T_lattice_Label_rep, b_1, (true && ((!z10) == false))⟩), (35, ⟨T_lattice_Label_rep, a_0, (true && ((!z10) == false))⟩), (36, ⟨T_lattice_Label_rep, z12, (true && ((!z10) == false))⟩), (37, ⟨Rep.bool, z13, (true && ((!z10) == false))⟩), (38, ⟨Rep.bool, !z13, (true && ((!z10) == false))⟩), (39, ⟨Rep.bool, cond (!z10) true (!z13), true⟩), (40, ⟨Rep.bool, cond (!z10) true (!z13), true⟩), (41, ⟨T_lattice_Label_rep, a_0, (true && ((cond (!z10) true (!z13)) == false))⟩), (42, ⟨T_lattice_Label_rep, a_0, (true && ((cond (!z10) true (!z13)) == false))⟩), (43, ⟨T_lattice_Label_rep, z14, (true && ((cond (!z10) true (!z13)) == false))⟩), (44, ⟨T_lattice_Label_rep, a_0, (true && ((cond (!z10) true (!z13)) == false))⟩), (45, ⟨Rep.bool, z15, (true && ((cond (!z10) true (!z13)) == false))⟩), (46, ⟨Rep.bool, !z15, (true && ((cond (!z10) true (!z13)) == false))⟩), (47, ⟨Rep.bool, cond (cond (!z10) true (!z13)) true (!z15), true⟩), (48, ⟨Rep.bool, cond (cond (!z10) true (!z13)) true (!z15), true⟩), (49, ⟨T_lattice_Label_rep, a_0, (true && ((cond (cond (!z10) true (!z13)) true (!z15)) == false))⟩), (50, ⟨T_lattice_Label_rep, a_0, (true && ((cond (cond (!z10) true (!z13)) true (!z15)) == false))⟩), (51, ⟨T_lattice_Label_rep, z16, (true && ((cond (cond (!z10) true (!z13)) true (!z15)) == false))⟩), (52, ⟨T_lattice_Label_rep, a_0, (true && ((cond (cond (!z10) true (!z13)) true (!z15)) == false))⟩), (53, ⟨Rep.bool, z17, (true && ((cond (cond (!z10) true (!z13)) true (!z15)) == false))⟩), (54, ⟨Rep.bool, !z17, (true && ((cond (cond (!z10) true (!z13)) true (!z15)) == false))⟩), (55, ⟨Rep.bool, cond (cond (cond (!z10) true (!z13)) true (!z15)) true (!z17), true⟩)] mixed rfl rfl ⟨?_, ?_, ?_, ?_, ?_, ?_, ?_, ?_, ?_, ?_, ?_, ?_, ?_, ?_, ?_, ?_, ?_, ?_, ?_, ?_, ?_, ?_, ?_, ?_, ?_, ?_, ?_, ?_, ?_, ?_, ?_, ?_, ?_, ?_, trivial⟩ ?_
      · intro S hc hk hp
        refine o_oloadi 2 rfl type48 foc_self rfl guard_none (look_o rfl rfl) (fun _ => rfl) ?_
        exact d_end rfl rfl rfl
      · intro S hc hk hp
        refine o_oloadi 1 rfl type48 foc_self rfl guard_none (look_o rfl rfl) (fun _ => rfl) ?_
        exact d_end rfl rfl rfl
      · intro S hc hk hp
        refine o_from (bind_eqO h_z8) ?_
        refine o_call rfl rfl rfl callable26 (looks_cons (look_d rfl rfl (pr hp 0 rfl rfl)) (fun _ => rfl) (looks_cons (look_d rfl rfl (pr hp 1 rfl rfl)) (fun _ => rfl) (looks_nil))) (lattice_Join_ok _ _) (o_eqO ?_)
        exact d_end rfl rfl rfl
      · intro S hc hk hp
        refine o_oloadi 1 rfl type48 foc_self rfl guard_none (look_o rfl rfl) (fun _ => rfl) ?_
        exact d_end rfl rfl rfl
      · intro S hc hk hp
        refine o_oloadi 2 rfl type48 foc_self rfl guard_none (look_o rfl rfl) (fun _ => rfl) ?_
        exact d_end rfl rfl rfl
      · intro S hc hk hp
        refine o_from (bind_eqO h_z9) ?_
        refine o_call rfl rfl rfl callable26 (looks_cons (look_d rfl rfl (pr hp 0 rfl rfl)) (fun _ => rfl) (looks_cons (look_d rfl rfl (pr hp 1 rfl rfl)) (fun _ => rfl) (looks_nil))) (lattice_Join_ok _ _) (o_eqO ?_)
        exact d_end rfl rfl rfl
      · intro S hc hk hp
        refine o_from (bind_eqO h_z10) ?_
        refine o_call rfl rfl rfl callable29 (looks_cons (look_d rfl rfl (pr hp 0 rfl rfl)) (fun _ => rfl) (looks_cons (look_d rfl rfl (pr hp 1 rfl rfl)) (fun _ => rfl) (looks_nil))) (law32_same_ok _ _) (o_eqO ?_)
        exact d_end rfl rfl rfl
      · intro S hc hk hp
        refine o_not rfl rfl guard_none (look_d rfl rfl (pr hp 0 rfl rfl)) (fun _ => rfl) ?_
        exact d_end rfl rfl rfl
      · intro S hc hk hp
        refine o_move rfl rfl guard_none (look_d rfl rfl (pr hp 0 rfl rfl)) (fun _ => rfl) ?_
        exact d_end rfl rfl rfl
      · intro S hc hk hp
        refine o_oloadi 2 rfl type48 foc_self rfl (guard_d rfl rfl rfl rfl (pr hp 0 rfl rfl)) (look_o rfl rfl) (fun _ => rfl) ?_
        exact d_end rfl rfl rfl
      · intro S hc hk hp
        refine o_oloadi 1 rfl type48 foc_self rfl (guard_d rfl rfl rfl rfl (pr hp 0 rfl rfl)) (look_o rfl rfl) (fun _ => rfl) ?_
        exact d_end rfl rfl rfl
      · intro S hc hk hp
        refine o_from (bind_eqO h_z11) ?_
        refine o_callg rfl rfl rfl (guard_d rfl rfl rfl rfl (pr hp 2 rfl rfl)) callable27 (looks_cons (look_d rfl rfl (pr hp 0 rfl rfl)) (fun h => h) (looks_cons (look_d rfl rfl (pr hp 1 rfl rfl)) (fun h => h) (looks_nil))) (lattice_Meet_ok _ _) (o_eqO ?_)
        exact d_end rfl rfl rfl
      · intro S hc hk hp
        refine o_oloadi 1 rfl type48 foc_self rfl (guard_d rfl rfl rfl rfl (pr hp 0 rfl rfl)) (look_o rfl rfl) (fun _ => rfl) ?_
        exact d_end rfl rfl rfl
      · intro S hc hk hp
        refine o_oloadi 2 rfl type48 foc_self rfl (guard_d rfl rfl rfl rfl (pr hp 0 rfl rfl)) (look_o rfl rfl) (fun _ => rfl) ?_
        exact d_end rfl rfl rfl
      · intro S hc hk hp
        refine o_from (bind_eqO h_z12) ?_
        refine o_callg rfl rfl rfl (guard_d rfl rfl rfl rfl (pr hp 3 rfl rfl)) callable27 (looks_cons (look_d rfl rfl (pr hp 0 rfl rfl)) (fun h => h) (looks_cons (look_d rfl rfl (pr hp 1 rfl rfl)) (fun h => h) (looks_nil))) (lattice_Meet_ok _ _) (o_eqO ?_)
        exact d_end rfl rfl rfl
      · intro S hc hk hp
        refine o_from (bind_eqO h_z13) ?_
        refine o_callg rfl rfl rfl (guard_d rfl rfl rfl rfl (pr hp 3 rfl rfl)) callable29 (looks_cons (look_d rfl rfl (pr hp 0 rfl rfl)) (fun h => h) (looks_cons (look_d rfl rfl (pr hp 1 rfl rfl)) (fun h => h) (looks_nil))) (law32_same_ok _ _) (o_eqO ?_)
        exact d_end rfl rfl rfl
      · intro S hc hk hp
        refine o_not rfl rfl (guard_d rfl rfl rfl rfl (pr hp 1 rfl rfl)) (look_d rfl rfl (pr hp 0 rfl rfl)) (fun h => h) ?_
        exact d_end rfl rfl rfl
      · intro S hc hk hp
        refine o_pick rfl rfl guard_none (look_d rfl rfl (pr hp 0 rfl rfl)) look_bool (look_d rfl rfl (pr hp 1 rfl rfl)) (fun _ => rfl) (fun _ _ => rfl) (fun h1 h2 => pick_f ((fun _ => rfl) h1) h2) ?_
        exact d_end rfl rfl rfl
      · intro S hc hk hp
        refine o_move rfl rfl guard_none (look_d rfl rfl (pr hp 0 rfl rfl)) (fun _ => rfl) ?_
        exact d_end rfl rfl rfl
      · intro S hc hk hp
        refine o_oloadi 2 rfl type48 foc_self rfl (guard_d rfl rfl rfl rfl (pr hp 0 rfl rfl)) (look_o rfl rfl) (fun _ => rfl) ?_
        exact d_end rfl rfl rfl
      · intro S hc hk hp
        refine o_oloadi 2 rfl type48 foc_self rfl (guard_d rfl rfl rfl rfl (pr hp 0 rfl rfl)) (look_o rfl rfl) (fun _ => rfl) ?_
        exact d_end rfl rfl rfl
      · intro S hc hk hp
        refine o_from (bind_eqO h_z14) ?_
        refine o_callg rfl rfl rfl (guard_d rfl rfl rfl rfl (pr hp 2 rfl rfl)) callable26 (looks_cons (look_d rfl rfl (pr hp 0 rfl rfl)) (fun h => h) (looks_cons (look_d rfl rfl (pr hp 1 rfl rfl)) (fun h => h) (looks_nil))) (lattice_Join_ok _ _) (o_eqO ?_)
        exact d_end rfl rfl rfl
      · intro S hc hk hp
        refine o_oloadi 2 rfl type48 foc_self rfl (guard_d rfl rfl rfl rfl (pr hp 0 rfl rfl)) (look_o rfl rfl) (fun _ => rfl) ?_
        exact d_end rfl rfl rfl
      · intro S hc hk hp
        refine o_from (bind_eqO h_z15) ?_
        refine o_callg rfl rfl rfl (guard_d rfl rfl rfl rfl (pr hp 3 rfl rfl)) callable29 (looks_cons (look_d rfl rfl (pr hp 0 rfl rfl)) (fun h => h) (looks_cons (look_d rfl rfl (pr hp 1 rfl rfl)) (fun h => h) (looks_nil))) (law32_same_ok _ _) (o_eqO ?_)
        exact d_end rfl rfl rfl
      · intro S hc hk hp
        refine o_not rfl rfl (guard_d rfl rfl rfl rfl (pr hp 1 rfl rfl)) (look_d rfl rfl (pr hp 0 rfl rfl)) (fun h => h) ?_
        exact d_end rfl rfl rfl
      · intro S hc hk hp
        refine o_pick rfl rfl guard_none (look_d rfl rfl (pr hp 0 rfl rfl)) look_bool (look_d rfl rfl (pr hp 1 rfl rfl)) (fun _ => rfl) (fun _ _ => rfl) (fun h1 h2 => pick_f ((fun _ => rfl) h1) h2) ?_
        exact d_end rfl rfl rfl
      · intro S hc hk hp
        refine o_move rfl rfl guard_none (look_d rfl rfl (pr hp 0 rfl rfl)) (fun _ => rfl) ?_
        exact d_end rfl rfl rfl
      · intro S hc hk hp
        refine o_oloadi 2 rfl type48 foc_self rfl (guard_d rfl rfl rfl rfl (pr hp 0 rfl rfl)) (look_o rfl rfl) (fun _ => rfl) ?_
        exact d_end rfl rfl rfl
      · intro S hc hk hp
        refine o_oloadi 2 rfl type48 foc_self rfl (guard_d rfl rfl rfl rfl (pr hp 0 rfl rfl)) (look_o rfl rfl) (fun _ => rfl) ?_
        exact d_end rfl rfl rfl
      · intro S hc hk hp
        refine o_from (bind_eqO h_z16) ?_
        refine o_callg rfl rfl rfl (guard_d rfl rfl rfl rfl (pr hp 2 rfl rfl)) callable27 (looks_cons (look_d rfl rfl (pr hp 0 rfl rfl)) (fun h => h) (looks_cons (look_d rfl rfl (pr hp 1 rfl rfl)) (fun h => h) (looks_nil))) (lattice_Meet_ok _ _) (o_eqO ?_)
        exact d_end rfl rfl rfl
      · intro S hc hk hp
        refine o_oloadi 2 rfl type48 foc_self rfl (guard_d rfl rfl rfl rfl (pr hp 0 rfl rfl)) (look_o rfl rfl) (fun _ => rfl) ?_
        exact d_end rfl rfl rfl
      · intro S hc hk hp
        refine o_from (bind_eqO h_z17) ?_
        refine o_callg rfl rfl rfl (guard_d rfl rfl rfl rfl (pr hp 3 rfl rfl)) callable29 (looks_cons (look_d rfl rfl (pr hp 0 rfl rfl)) (fun h => h) (looks_cons (look_d rfl rfl (pr hp 1 rfl rfl)) (fun h => h) (looks_nil))) (law32_same_ok _ _) (o_eqO ?_)
        exact d_end rfl rfl rfl
      · intro S hc hk hp
        refine o_not rfl rfl (guard_d rfl rfl rfl rfl (pr hp 1 rfl rfl)) (look_d rfl rfl (pr hp 0 rfl rfl)) (fun h => h) ?_
        exact d_end rfl rfl rfl
      · intro S hc hk hp
        refine o_pick rfl rfl guard_none (look_d rfl rfl (pr hp 0 rfl rfl)) look_bool (look_d rfl rfl (pr hp 1 rfl rfl)) (fun _ => rfl) (fun _ _ => rfl) (fun h1 h2 => pick_f ((fun _ => rfl) h1) h2) ?_
        exact d_end rfl rfl rfl
      refine den_cond (look_tmp rfl) ?_ ?_
      · refine den_seq ?_
        refine den_region rfl ?_
        refine o_assign rfl rfl guard_none look_bool (fun _ => rfl) ?_
        refine o_end ?_
        refine den_code_ret ?_
        refine dene_ret ?_
        exact dene_res (res1 rfl (rv_tmp rfl))
      · refine den_skip ?_
        refine den_seq ?_
        refine den_seq ?_
        refine den_open (fun z18 h_z18 => ?_)
        refine den_open (fun z19 h_z19 => ?_)
        refine den_open (fun z20 h_z20 => ?_)
        refine den_open (fun z21 h_z21 => ?_)
        refine den_open (fun z22 h_z22 => ?_)
        refine den_open (fun z23 h_z23 => ?_)
        refine den_draw [(56, ⟨T_lattice_Label_rep, a_0, true⟩), (57, ⟨T_lattice_Label_rep, a_0, true⟩), (58, ⟨T_lattice_Label_rep, b_1, true⟩), (59, ⟨T_lattice_Label_rep, z18, true⟩), (60, ⟨T_lattice_Label_rep, z19, true⟩), (61, ⟨T_lattice_Label_rep, a_0, true⟩), (62, ⟨Rep.bool, z20, true⟩), (63, ⟨Rep.bool, !z20, true⟩), (64, ⟨Rep.bool, !z20, true⟩), (65, ⟨T_lattice_Label_rep, a_0, (true && ((!z20) == false))⟩), (66, ⟨T_lattice_Label_rep, a_0, (true && ((!z20) == false))⟩), (67, ⟨T_lattice_Label_rep, b_1, (true && ((!z20) == false))⟩), (68, ⟨T_lattice_Label_rep, z21, (true && ((!z20) == false))⟩), (69, ⟨T_lattice_Label_rep, z22, (true && ((!z20) == false))⟩), (70, ⟨T_lattice_Label_rep, a_0, (true && ((!z20) == false))⟩), (71, ⟨Rep.bool, z23, (true && ((!z20) == false))⟩), (72, ⟨Rep.bool, !z23, (true && ((!z20) == false))⟩), (73, ⟨Rep.bool, cond (!z20) true (!z23), true⟩)] mixed rfl rfl ⟨?_, ?_, ?_, ?_, ?_, ?_, ?_, ?_, ?_, ?_, ?_, ?_, ?_, ?_, ?_, ?_, ?_, ?_, trivial⟩ ?_
        · intro S hc hk hp
          refine o_oloadi 2 rfl type48 foc_self rfl guard_none (look_o rfl rfl) (fun _ => rfl) ?_
          exact d_end rfl rfl rfl
        · intro S hc hk hp
          refine o_oloadi 2 rfl type48 foc_self rfl guard_none (look_o rfl rfl) (fun _ => rfl) ?_
          exact d_end rfl rfl rfl
        · intro S hc hk hp
          refine o_oloadi 1 rfl type48 foc_self rfl guard_none (look_o rfl rfl) (fun _ => rfl) ?_
          exact d_end rfl rfl rfl
        · intro S hc hk hp
          refine o_from (bind_eqO h_z18) ?_
          refine o_call rfl rfl rfl callable27 (looks_cons (look_d rfl rfl (pr hp 0 rfl rfl)) (fun _ => rfl) (looks_cons (look_d rfl rfl (pr hp 1 rfl rfl)) (fun _ => rfl) (looks_nil))) (lattice_Meet_ok _ _) (o_eqO ?_)
          exact d_end rfl rfl rfl
        · intro S hc hk hp
          refine o_from (bind_eqO h_z19) ?_
          refine o_call rfl rfl rfl callable26 (looks_cons (look_d rfl rfl (pr hp 0 rfl rfl)) (fun _ => rfl) (looks_cons (look_d rfl rfl (pr hp 1 rfl rfl)) (fun _ => rfl) (looks_nil))) (lattice_Join_ok _ _) (o_eqO ?_)
          exact d_end rfl rfl rfl
        · intro S hc hk hp
          refine o_oloadi 2 rfl type48 foc_self rfl guard_none (look_o rfl rfl) (fun _ => rfl) ?_
          exact d_end rfl rfl rfl
        · intro S hc hk hp
          refine o_from (bind_eqO h_z20) ?_
          refine o_call rfl rfl rfl callable29 (looks_cons (look_d rfl rfl (pr hp 0 rfl rfl)) (fun _ => rfl) (looks_cons (look_d rfl rfl (pr hp 1 rfl rfl)) (fun _ => rfl) (looks_nil))) (law32_same_ok _ _) (o_eqO ?_)
          exact d_end rfl rfl rfl
        · intro S hc hk hp
          refine o_not rfl rfl guard_none (look_d rfl rfl (pr hp 0 rfl rfl)) (fun _ => rfl) ?_
          exact d_end rfl rfl rfl
        · intro S hc hk hp
          refine o_move rfl rfl guard_none (look_d rfl rfl (pr hp 0 rfl rfl)) (fun _ => rfl) ?_
          exact d_end rfl rfl rfl
        · intro S hc hk hp
          refine o_oloadi 2 rfl type48 foc_self rfl (guard_d rfl rfl rfl rfl (pr hp 0 rfl rfl)) (look_o rfl rfl) (fun _ => rfl) ?_
          exact d_end rfl rfl rfl
        · intro S hc hk hp
          refine o_oloadi 2 rfl type48 foc_self rfl (guard_d rfl rfl rfl rfl (pr hp 0 rfl rfl)) (look_o rfl rfl) (fun _ => rfl) ?_
          exact d_end rfl rfl rfl
        · intro S hc hk hp
          refine o_oloadi 1 rfl type48 foc_self rfl (guard_d rfl rfl rfl rfl (pr hp 0 rfl rfl)) (look_o rfl rfl) (fun _ => rfl) ?_
          exact d_end rfl rfl rfl
        · intro S hc hk hp
          refine o_from (bind_eqO h_z21) ?_
          refine o_callg rfl rfl rfl (guard_d rfl rfl rfl rfl (pr hp 2 rfl rfl)) callable26 (looks_cons (look_d rfl rfl (pr hp 0 rfl rfl)) (fun h => h) (looks_cons (look_d rfl rfl (pr hp 1 rfl rfl)) (fun h => h) (looks_nil))) (lattice_Join_ok _ _) (o_eqO ?_)
          exact d_end rfl rfl rfl
        · intro S hc hk hp
          refine o_from (bind_eqO h_z22) ?_
          refine o_callg rfl rfl rfl (guard_d rfl rfl rfl rfl (pr hp 3 rfl rfl)) callable27 (looks_cons (look_d rfl rfl (pr hp 0 rfl rfl)) (fun h => h) (looks_cons (look_d rfl rfl (pr hp 1 rfl rfl)) (fun h => h) (looks_nil))) (lattice_Meet_ok _ _) (o_eqO ?_)
          exact d_end rfl rfl rfl
        · intro S hc hk hp
          refine o_oloadi 2 rfl type48 foc_self rfl (guard_d rfl rfl rfl rfl (pr hp 0 rfl rfl)) (look_o rfl rfl) (fun _ => rfl) ?_
          exact d_end rfl rfl rfl
        · intro S hc hk hp
          refine o_from (bind_eqO h_z23) ?_
          refine o_callg rfl rfl rfl (guard_d rfl rfl rfl rfl (pr hp 3 rfl rfl)) callable29 (looks_cons (look_d rfl rfl (pr hp 0 rfl rfl)) (fun h => h) (looks_cons (look_d rfl rfl (pr hp 1 rfl rfl)) (fun h => h) (looks_nil))) (law32_same_ok _ _) (o_eqO ?_)
          exact d_end rfl rfl rfl
        · intro S hc hk hp
          refine o_not rfl rfl (guard_d rfl rfl rfl rfl (pr hp 1 rfl rfl)) (look_d rfl rfl (pr hp 0 rfl rfl)) (fun h => h) ?_
          exact d_end rfl rfl rfl
        · intro S hc hk hp
          refine o_pick rfl rfl guard_none (look_d rfl rfl (pr hp 0 rfl rfl)) look_bool (look_d rfl rfl (pr hp 1 rfl rfl)) (fun _ => rfl) (fun _ _ => rfl) (fun h1 h2 => pick_f ((fun _ => rfl) h1) h2) ?_
          exact d_end rfl rfl rfl
        refine den_cond (look_tmp rfl) ?_ ?_
        · refine den_seq ?_
          refine den_region rfl ?_
          refine o_assign rfl rfl guard_none look_bool (fun _ => rfl) ?_
          refine o_end ?_
          refine den_code_ret ?_
          refine dene_ret ?_
          exact dene_res (res1 rfl (rv_tmp rfl))
        · refine den_skip ?_
          refine den_seq ?_
          refine den_open (fun z24 h_z24 => ?_)
          refine den_open (fun z25 h_z25 => ?_)
          refine den_open (fun z26 h_z26 => ?_)
          refine den_open (fun z27 h_z27 => ?_)
          refine den_open (fun z28 h_z28 => ?_)
          refine den_open (fun z29 h_z29 => ?_)
          refine den_open (fun z30 h_z30 => ?_)
          refine den_open (fun z31 h_z31 => ?_)
          refine den_open (fun z32 h_z32 => ?_)
          refine den_open (fun z33 h_z33 => ?_)
          refine den_draw [(74, ⟨T_lattice_Label_rep, a_0, true⟩), (75, ⟨T_lattice_Label_rep, b_1, true⟩), (76, ⟨T_lattice_Label_rep, z24, true⟩), (77, ⟨T_lattice_Label_rep, c_2, true⟩), (78, ⟨T_lattice_Label_rep, z25, true⟩), (79, ⟨T_lattice_Label_rep, a_0, true⟩), (80, ⟨T_lattice_Label_rep, b_1, true⟩), (81, ⟨T_lattice_Label_rep, c_2, true⟩), (82, ⟨T_lattice_Label_rep, z26, true⟩), (83, ⟨T_lattice_Label_rep, z27, true⟩), (84, ⟨Rep.bool, z28, true⟩), (85, ⟨Rep.bool, z28, true⟩), (86, ⟨T_lattice_Label_rep, a_0, (true && (z28 == true))⟩), (87, ⟨T_lattice_Label_rep, b_1, (true && (z28 == true))⟩), (88, ⟨T_lattice_Label_rep, z29, (true && (z28 == true))⟩), (89, ⟨T_lattice_Label_rep, c_2, (true && (z28 == true))⟩), (90, ⟨T_lattice_Label_rep, z30, (true && (z28 == true))⟩), (91, ⟨T_lattice_Label_rep, a_0, (true && (z28 == true))⟩), (92, ⟨T_lattice_Label_rep, b_1, (true && (z28 == true))⟩), (93, ⟨T_lattice_Label_rep, c_2, (true && (z28 == true))⟩), (94, ⟨T_lattice_Label_rep, z31, (true && (z28 == true))⟩), (95, ⟨T_lattice_Label_rep, z32, (true && (z28 == true))⟩), (96, ⟨Rep.bool, z33, (true && (z28 == true))⟩), (97, ⟨Rep.bool, cond z28 z33 false, true⟩), (6, ⟨Rep.bool, cond z28 z33 false, true⟩)] mixed rfl rfl ⟨?_, ?_, ?_, ?_, ?_, ?_, ?_, ?_, ?_, ?_, ?_, ?_, ?_, ?_, ?_, ?_, ?_, ?_, ?_, ?_, ?_, ?_, ?_, ?_, ?_, trivial⟩ ?_
          · intro S hc hk hp
            refine o_oloadi 2 rfl type48 foc_self rfl guard_none (look_o rfl rfl) (fun _ => rfl) ?_
            exact d_end rfl rfl rfl
          · intro S hc hk hp
            refine o_oloadi 1 rfl type48 foc_self rfl guard_none (look_o rfl rfl) (fun _ => rfl) ?_
            exact d_end rfl rfl rfl
          · intro S hc hk hp
            refine o_from (bind_eqO h_z24) ?_
            refine o_call rfl rfl rfl callable26 (looks_cons (look_d rfl rfl (pr hp 0 rfl rfl)) (fun _ => rfl) (looks_cons (look_d rfl rfl (pr hp 1 rfl rfl)) (fun _ => rfl) (looks_nil))) (lattice_Join_ok _ _) (o_eqO ?_)
            exact d_end rfl rfl rfl
          · intro S hc hk hp
            refine o_oloadi 0 rfl type48 foc_self rfl guard_none (look_o rfl rfl) (fun _ => rfl) ?_
            exact d_end rfl rfl rfl
          · intro S hc hk hp
            refine o_from (bind_eqO h_z25) ?_
            refine o_call rfl rfl rfl callable26 (looks_cons (look_d rfl rfl (pr hp 0 rfl rfl)) (fun _ => rfl) (looks_cons (look_d rfl rfl (pr hp 1 rfl rfl)) (fun _ => rfl) (looks_nil))) (lattice_Join_ok _ _) (o_eqO ?_)
            exact d_end rfl rfl rfl
          · intro S hc hk hp
            refine o_oloadi 2 rfl type48 foc_self rfl guard_none (look_o rfl rfl) (fun _ => rfl) ?_
            exact d_end rfl rfl rfl
          · intro S hc hk hp
            refine o_oloadi 1 rfl type48 foc_self rfl guard_none (look_o rfl rfl) (fun _ => rfl) ?_
            exact d_end rfl rfl rfl
          · intro S hc hk hp
            refine o_oloadi 0 rfl type48 foc_self rfl guard_none (look_o rfl rfl) (fun _ => rfl) ?_
            exact d_end rfl rfl rfl
          · intro S hc hk hp
            refine o_from (bind_eqO h_z26) ?_
            refine o_call rfl rfl rfl callable26 (looks_cons (look_d rfl rfl (pr hp 0 rfl rfl)) (fun _ => rfl) (looks_cons (look_d rfl rfl (pr hp 1 rfl rfl)) (fun _ => rfl) (looks_nil))) (lattice_Join_ok _ _) (o_eqO ?_)
            exact d_end rfl rfl rfl
          · intro S hc hk hp
            refine o_from (bind_eqO h_z27) ?_
            refine o_call rfl rfl rfl callable26 (looks_cons (look_d rfl rfl (pr hp 0 rfl rfl)) (fun _ => rfl) (looks_cons (look_d rfl rfl (pr hp 1 rfl rfl)) (fun _ => rfl) (looks_nil))) (lattice_Join_ok _ _) (o_eqO ?_)
            exact d_end rfl rfl rfl
          · intro S hc hk hp
            refine o_from (bind_eqO h_z28) ?_
            refine o_call rfl rfl rfl callable29 (looks_cons (look_d rfl rfl (pr hp 0 rfl rfl)) (fun _ => rfl) (looks_cons (look_d rfl rfl (pr hp 1 rfl rfl)) (fun _ => rfl) (looks_nil))) (law32_same_ok _ _) (o_eqO ?_)
            exact d_end rfl rfl rfl
          · intro S hc hk hp
            refine o_move rfl rfl guard_none (look_d rfl rfl (pr hp 0 rfl rfl)) (fun _ => rfl) ?_
            exact d_end rfl rfl rfl
          · intro S hc hk hp
            refine o_oloadi 2 rfl type48 foc_self rfl (guard_d rfl rfl rfl rfl (pr hp 0 rfl rfl)) (look_o rfl rfl) (fun _ => rfl) ?_
            exact d_end rfl rfl rfl
          · intro S hc hk hp
            refine o_oloadi 1 rfl type48 foc_self rfl (guard_d rfl rfl rfl rfl (pr hp 0 rfl rfl)) (look_o rfl rfl) (fun _ => rfl) ?_
            exact d_end rfl rfl rfl
          · intro S hc hk hp
            refine o_from (bind_eqO h_z29) ?_
            refine o_callg rfl rfl rfl (guard_d rfl rfl rfl rfl (pr hp 2 rfl rfl)) callable27 (looks_cons (look_d rfl rfl (pr hp 0 rfl rfl)) (fun h => h) (looks_cons (look_d rfl rfl (pr hp 1 rfl rfl)) (fun h => h) (looks_nil))) (lattice_Meet_ok _ _) (o_eqO ?_)
            exact d_end rfl rfl rfl
          · intro S hc hk hp
            refine o_oloadi 0 rfl type48 foc_self rfl (guard_d rfl rfl rfl rfl (pr hp 0 rfl rfl)) (look_o rfl rfl) (fun _ => rfl) ?_
            exact d_end rfl rfl rfl
          · intro S hc hk hp
            refine o_from (bind_eqO h_z30) ?_
            refine o_callg rfl rfl rfl (guard_d rfl rfl rfl rfl (pr hp 3 rfl rfl)) callable27 (looks_cons (look_d rfl rfl (pr hp 0 rfl rfl)) (fun h => h) (looks_cons (look_d rfl rfl (pr hp 1 rfl rfl)) (fun h => h) (looks_nil))) (lattice_Meet_ok _ _) (o_eqO ?_)
            exact d_end rfl rfl rfl
          · intro S hc hk hp
            refine o_oloadi 2 rfl type48 foc_self rfl (guard_d rfl rfl rfl rfl (pr hp 0 rfl rfl)) (look_o rfl rfl) (fun _ => rfl) ?_
            exact d_end rfl rfl rfl
          · intro S hc hk hp
            refine o_oloadi 1 rfl type48 foc_self rfl (guard_d rfl rfl rfl rfl (pr hp 0 rfl rfl)) (look_o rfl rfl) (fun _ => rfl) ?_
            exact d_end rfl rfl rfl
          · intro S hc hk hp
            refine o_oloadi 0 rfl type48 foc_self rfl (guard_d rfl rfl rfl rfl (pr hp 0 rfl rfl)) (look_o rfl rfl) (fun _ => rfl) ?_
            exact d_end rfl rfl rfl
          · intro S hc hk hp
            refine o_from (bind_eqO h_z31) ?_
            refine o_callg rfl rfl rfl (guard_d rfl rfl rfl rfl (pr hp 3 rfl rfl)) callable27 (looks_cons (look_d rfl rfl (pr hp 0 rfl rfl)) (fun h => h) (looks_cons (look_d rfl rfl (pr hp 1 rfl rfl)) (fun h => h) (looks_nil))) (lattice_Meet_ok _ _) (o_eqO ?_)
            exact d_end rfl rfl rfl
          · intro S hc hk hp
            refine o_from (bind_eqO h_z32) ?_
            refine o_callg rfl rfl rfl (guard_d rfl rfl rfl rfl (pr hp 3 rfl rfl)) callable27 (looks_cons (look_d rfl rfl (pr hp 0 rfl rfl)) (fun h => h) (looks_cons (look_d rfl rfl (pr hp 1 rfl rfl)) (fun h => h) (looks_nil))) (lattice_Meet_ok _ _) (o_eqO ?_)
            exact d_end rfl rfl rfl
          · intro S hc hk hp
            refine o_from (bind_eqO h_z33) ?_
            refine o_callg rfl rfl rfl (guard_d rfl rfl rfl rfl (pr hp 3 rfl rfl)) callable29 (looks_cons (look_d rfl rfl (pr hp 0 rfl rfl)) (fun h => h) (looks_cons (look_d rfl rfl (pr hp 1 rfl rfl)) (fun h => h) (looks_nil))) (law32_same_ok _ _) (o_eqO ?_)
            exact d_end rfl rfl rfl
          · intro S hc hk hp
            refine o_pick rfl rfl guard_none (look_d rfl rfl (pr hp 0 rfl rfl)) (look_d rfl rfl (pr hp 1 rfl rfl)) look_bool (fun _ => rfl) (fun h1 h2 => pick_t ((fun _ => rfl) h1) h2) (fun _ _ => rfl) ?_
            exact d_end rfl rfl rfl
          · intro S hc hk hp
            refine o_assign rfl rfl guard_none (look_d rfl rfl (pr hp 0 rfl rfl)) (fun _ => rfl) ?_
            exact d_end rfl rfl rfl
          refine den_code_ret ?_
          exact dene_res (res1 rfl (rv_tmp rfl))

theorem law32_LatticeLeast_ok  (a_0 : T_lattice_Label) (b_1 : T_lattice_Label) (c_2 : T_lattice_Label) : FunOk Try.prog 9 [⟨T_lattice_Label_rep, a_0, true⟩, ⟨T_lattice_Label_rep, b_1, true⟩, ⟨T_lattice_Label_rep, c_2, true⟩] (law32_LatticeLeast a_0 b_1 c_2) (Rep.bool) := by
  refine fun_ok Try.func9 rfl Try.ntmps9 rfl (all_cons rfl (all_cons rfl (all_cons rfl all_nil))) (fun w0 ok0 => ?_)
  refine den_seq ?_
  refine den_region rfl ?_
  refine o_box rfl rfl (look_tmp rfl) rfl (fun z1 => ?_)
  refine o_box rfl rfl (look_tmp rfl) rfl (fun z2 => ?_)
  refine o_box rfl rfl (look_tmp rfl) rfl (fun z3 => ?_)
  refine o_assign rfl rfl guard_none look_bool (fun _ => rfl) ?_
  refine o_end ?_
  refine den_seq ?_
  refine den_seq ?_
  refine den_region rfl ?_
  refine o_call rfl rfl rfl callable24 (looks_nil) (law32_alive_ok) (fun z4 => ?_)
  refine o_not rfl rfl guard_none (look_tmp rfl) (fun _ => rfl) ?_
  refine o_end ?_
  refine den_cond (look_tmp rfl) ?_ ?_
  · refine den_seq ?_
    refine den_region rfl ?_
    refine o_assign rfl rfl guard_none look_bool (fun _ => rfl) ?_
    refine o_end ?_
    refine den_code_ret ?_
    refine dene_ret ?_
    exact dene_res (res1 rfl (rv_tmp rfl))
  · refine den_skip ?_
    refine den_seq ?_
    refine den_open (fun z6 h_z6 => ?_)
    refine den_open (fun z7 h_z7 => ?_)
    have hB : ∀ (z5α : (Nat × Nat)) (S : Nat → Bool) (b6 b7 b8 b9 : Bool), S 6 = b6 → S 7 = b7 → S 8 = b8 → S 9 = b9 → (([.obj true z3 0 (.dat T_lattice_Label_rep) c_2, .obj true z2 0 (.dat T_lattice_Label_rep) b_1, .obj true z1 0 (.dat T_lattice_Label_rep) a_0, (cond (S 8) (.obj true (z5α.1) 0 (.dat T_lattice_Label_rep) z6) ((cond (S 6) (.obj true (z5α.1) 0 (.dat T_lattice_Label_rep) T_lattice_Label_zero) (.gone)))), (cond (S 9) (.obj true (z5α.2) 0 (.dat T_lattice_Label_rep) z7) ((cond (S 7) (.obj true (z5α.2) 0 (.dat T_lattice_Label_rep) T_lattice_Label_zero) (.gone))))] : List Go.Eng.Item)) = ([.obj true z3 0 (.dat T_lattice_Label_rep) c_2, .obj true z2 0 (.dat T_lattice_Label_rep) b_1, .obj true z1 0 (.dat T_lattice_Label_rep) a_0, (cond b8 (.obj true (z5α.1) 0 (.dat T_lattice_Label_rep) z6) ((cond b6 (.obj true (z5α.1) 0 (.dat T_lattice_Label_rep) T_lattice_Label_zero) (.gone)))), (cond b9 (.obj true (z5α.2) 0 (.dat T_lattice_Label_rep) z7) ((cond b7 (.obj true (z5α.2) 0 (.dat T_lattice_Label_rep) T_lattice_Label_zero) (.gone))))] : List Go.Eng.Item) := fun z5α S b6 b7 b8 b9 h6 h7 h8 h9 => by subst h6; subst h7; subst h8; subst h9; rfl
    refine den_weak sub_gone ?_
    refine den_weak sub_gone ?_
    refine den_weak (sub_pick (H' := [.obj true z3 0 (.dat T_lattice_Label_rep) c_2, .obj true z2 0 (.dat T_lattice_Label_rep) b_1, .obj true z1 0 (.dat T_lattice_Label_rep) a_0, .gone, .gone]) [2, 3, 4, 0, 1] rfl rfl) ?_
    refine den_drawA (A := (Nat × Nat)) (H' := fun z5α => [.obj true z3 0 (.dat T_lattice_Label_rep) c_2, .obj true z2 0 (.dat T_lattice_Label_rep) b_1, .obj true z1 0 (.dat T_lattice_Label_rep) a_0, .obj true (z5α.1) 0 (.dat T_lattice_Label_rep) z6, .obj true (z5α.2) 0 (.dat T_lattice_Label_rep) z7]) (fun z5α => [(13, ⟨T_lattice_Label_rep, a_0, true⟩), (14, ⟨T_lattice_Label_rep, b_1, true⟩), (15, ⟨T_lattice_Label_rep, z6, true⟩), (16, ⟨T_lattice_Label_rep, a_0, true⟩), (17, ⟨T_lattice_Label_rep, b_1, true⟩), (18, ⟨T_lattice_Label_rep, z7, true⟩), (7, ⟨Rep.addr, (z5α.1, 0), true⟩), (8, ⟨Rep.addr, (z5α.2, 0), true⟩), (75, ⟨.any, (), false⟩), (76, ⟨.any, (), false⟩)]) (fun z5α S => [.obj true z3 0 (.dat T_lattice_Label_rep) c_2, .obj true z2 0 (.dat T_lattice_Label_rep) b_1, .obj true z1 0 (.dat T_lattice_Label_rep) a_0, (cond (S 8) (.obj true (z5α.1) 0 (.dat T_lattice_Label_rep) z6) ((cond (S 6) (.obj true (z5α.1) 0 (.dat T_lattice_Label_rep) T_lattice_Label_zero) (.gone)))), (cond (S 9) (.obj true (z5α.2) 0 (.dat T_lattice_Label_rep) z7) ((cond (S 7) (.obj true (z5α.2) 0 (.dat T_lattice_Label_rep) T_lattice_Label_zero) (.gone))))]) (0, 0) mixed (fun _ => rfl) rfl rfl (fun z5α S hS => hB z5α S true true true true (hS 6 (by decide)) (hS 7 (by decide)) (hS 8 (by decide)) (hS 9 (by decide))) ⟨?_, ?_, ?_, ?_, ?_, ?_, ?_, ?_, ?_, ?_, trivial⟩ (fun z5α => ?_)
    · intro z5α S hc hk hp
      have e8 : S 8 = false := (not_yet (j := 8) (q := 3) hc hk rfl rfl rfl rfl)
      have e9 : S 9 = false := (not_yet (j := 9) (q := 3) hc hk rfl rfl rfl rfl)
      refine eq_H (H' := [.obj true z3 0 (.dat T_lattice_Label_rep) c_2, .obj true z2 0 (.dat T_lattice_Label_rep) b_1, .obj true z1 0 (.dat T_lattice_Label_rep) a_0, (cond (S 6) (.obj true (z5α.1) 0 (.dat T_lattice_Label_rep) T_lattice_Label_zero) (.gone)), (cond (S 7) (.obj true (z5α.2) 0 (.dat T_lattice_Label_rep) T_lattice_Label_zero) (.gone))]) (by first | exact hB z5α S (S 6) (S 7) false false rfl rfl e8 e9 | (have q := hB z5α S (S 6) (S 7) false false rfl rfl e8 e9; simp only [cond_true, cond_false] at q; exact q)) ?_
      refine o_oloadi 2 rfl type48 foc_self rfl guard_none (look_o rfl rfl) (fun _ => rfl) ?_
      apply h_endA (α := z5α) (z5α.1, z5α.2)
      · exact (.same (.same (.same (.same (.same (.same (.same (.same (.same (.same .nil))))))))))
      · exact rfl
      · exact rfl
      · exact rfl
      · exact hB (z5α.1, z5α.2) (fun k => S k || Nat.beq k 0) (S 6) (S 7) false false (or_ne rfl) (or_ne rfl) (or_f e8 rfl) (or_f e9 rfl)
    · intro z5α S hc hk hp
      have e8 : S 8 = false := (not_yet (j := 8) (q := 4) hc hk rfl rfl rfl rfl)
      have e9 : S 9 = false := (not_yet (j := 9) (q := 4) hc hk rfl rfl rfl rfl)
      refine eq_H (H' := [.obj true z3 0 (.dat T_lattice_Label_rep) c_2, .obj true z2 0 (.dat T_lattice_Label_rep) b_1, .obj true z1 0 (.dat T_lattice_Label_rep) a_0, (cond (S 6) (.obj true (z5α.1) 0 (.dat T_lattice_Label_rep) T_lattice_Label_zero) (.gone)), (cond (S 7) (.obj true (z5α.2) 0 (.dat T_lattice_Label_rep) T_lattice_Label_zero) (.gone))]) (by first | exact hB z5α S (S 6) (S 7) false false rfl rfl e8 e9 | (have q := hB z5α S (S 6) (S 7) false false rfl rfl e8 e9; simp only [cond_true, cond_false] at q; exact q)) ?_
      refine o_oloadi 1 rfl type48 foc_self rfl guard_none (look_o rfl rfl) (fun _ => rfl) ?_
      apply h_endA (α := z5α) (z5α.1, z5α.2)
      · exact (.same (.same (.same (.same (.same (.same (.same (.same (.same (.same .nil))))))))))
      · exact rfl
      · exact rfl
      · exact rfl
      · exact hB (z5α.1, z5α.2) (fun k => S k || Nat.beq k 1) (S 6) (S 7) false false (or_ne rfl) (or_ne rfl) (or_f e8 rfl) (or_f e9 rfl)
    · intro z5α S hc hk hp
      have e8 : S 8 = false := (not_yet (j := 8) (q := 1) hc hk rfl rfl rfl rfl)
      have e9 : S 9 = false := (not_yet (j := 9) (q := 5) hc hk rfl rfl rfl rfl)
      refine eq_H (H' := [.obj true z3 0 (.dat T_lattice_Label_rep) c_2, .obj true z2 0 (.dat T_lattice_Label_rep) b_1, .obj true z1 0 (.dat T_lattice_Label_rep) a_0, (cond (S 6) (.obj true (z5α.1) 0 (.dat T_lattice_Label_rep) T_lattice_Label_zero) (.gone)), (cond (S 7) (.obj true (z5α.2) 0 (.dat T_lattice_Label_rep) T_lattice_Label_zero) (.gone))]) (by first | exact hB z5α S (S 6) (S 7) false false rfl rfl e8 e9 | (have q := hB z5α S (S 6) (S 7) false false rfl rfl e8 e9; simp only [cond_true, cond_false] at q; exact q)) ?_
      refine o_from (bind_eqO h_z6) ?_
      refine o_call rfl rfl rfl callable26 (looks_cons (look_d rfl rfl (pr hp 0 rfl rfl)) (fun _ => rfl) (looks_cons (look_d rfl rfl (pr hp 1 rfl rfl)) (fun _ => rfl) (looks_nil))) (lattice_Join_ok _ _) (o_eqO ?_)
      apply h_endA (α := z5α) (z5α.1, z5α.2)
      · exact (.same (.same (.same (.same (.same (.same (.same (.same (.same (.same .nil))))))))))
      · exact rfl
      · exact rfl
      · exact rfl
      · exact hB (z5α.1, z5α.2) (fun k => S k || Nat.beq k 2) (S 6) (S 7) false false (or_ne rfl) (or_ne rfl) (or_f e8 rfl) (or_f e9 rfl)
    · intro z5α S hc hk hp
      have e8 : S 8 = false := (not_yet (j := 8) (q := 2) hc (not_yet (j := 5) (q := 0) hc hk rfl rfl rfl rfl) rfl rfl rfl rfl)
      have e9 : S 9 = false := (not_yet (j := 9) (q := 6) hc hk rfl rfl rfl rfl)
      refine eq_H (H' := [.obj true z3 0 (.dat T_lattice_Label_rep) c_2, .obj true z2 0 (.dat T_lattice_Label_rep) b_1, .obj true z1 0 (.dat T_lattice_Label_rep) a_0, (cond (S 6) (.obj true (z5α.1) 0 (.dat T_lattice_Label_rep) T_lattice_Label_zero) (.gone)), (cond (S 7) (.obj true (z5α.2) 0 (.dat T_lattice_Label_rep) T_lattice_Label_zero) (.gone))]) (by first | exact hB z5α S (S 6) (S 7) false false rfl rfl e8 e9 | (have q := hB z5α S (S 6) (S 7) false false rfl rfl e8 e9; simp only [cond_true, cond_false] at q; exact q)) ?_
      refine o_oloadi 2 rfl type48 foc_self rfl guard_none (look_o rfl rfl) (fun _ => rfl) ?_
      apply h_endA (α := z5α) (z5α.1, z5α.2)
      · exact (.same (.same (.same (.same (.same (.same (.same (.same (.same (.same .nil))))))))))
      · exact rfl
      · exact rfl
      · exact rfl
      · exact hB (z5α.1, z5α.2) (fun k => S k || Nat.beq k 3) (S 6) (S 7) false false (or_ne rfl) (or_ne rfl) (or_f e8 rfl) (or_f e9 rfl)
    · intro z5α S hc hk hp
      have e8 : S 8 = false := (not_yet (j := 8) (q := 2) hc (not_yet (j := 5) (q := 1) hc hk rfl rfl rfl rfl) rfl rfl rfl rfl)
      have e9 : S 9 = false := (not_yet (j := 9) (q := 7) hc hk rfl rfl rfl rfl)
      refine eq_H (H' := [.obj true z3 0 (.dat T_lattice_Label_rep) c_2, .obj true z2 0 (.dat T_lattice_Label_rep) b_1, .obj true z1 0 (.dat T_lattice_Label_rep) a_0, (cond (S 6) (.obj true (z5α.1) 0 (.dat T_lattice_Label_rep) T_lattice_Label_zero) (.gone)), (cond (S 7) (.obj true (z5α.2) 0 (.dat T_lattice_Label_rep) T_lattice_Label_zero) (.gone))]) (by first | exact hB z5α S (S 6) (S 7) false false rfl rfl e8 e9 | (have q := hB z5α S (S 6) (S 7) false false rfl rfl e8 e9; simp only [cond_true, cond_false] at q; exact q)) ?_
      refine o_oloadi 1 rfl type48 foc_self rfl guard_none (look_o rfl rfl) (fun _ => rfl) ?_
      apply h_endA (α := z5α) (z5α.1, z5α.2)
      · exact (.same (.same (.same (.same (.same (.same (.same (.same (.same (.same .nil))))))))))
      · exact rfl
      · exact rfl
      · exact rfl
      · exact hB (z5α.1, z5α.2) (fun k => S k || Nat.beq k 4) (S 6) (S 7) false false (or_ne rfl) (or_ne rfl) (or_f e8 rfl) (or_f e9 rfl)
    · intro z5α S hc hk hp
      have e8 : S 8 = false := (not_yet (j := 8) (q := 2) hc hk rfl rfl rfl rfl)
      have e9 : S 9 = false := (not_yet (j := 9) (q := 1) hc hk rfl rfl rfl rfl)
      refine eq_H (H' := [.obj true z3 0 (.dat T_lattice_Label_rep) c_2, .obj true z2 0 (.dat T_lattice_Label_rep) b_1, .obj true z1 0 (.dat T_lattice_Label_rep) a_0, (cond (S 6) (.obj true (z5α.1) 0 (.dat T_lattice_Label_rep) T_lattice_Label_zero) (.gone)), (cond (S 7) (.obj true (z5α.2) 0 (.dat T_lattice_Label_rep) T_lattice_Label_zero) (.gone))]) (by first | exact hB z5α S (S 6) (S 7) false false rfl rfl e8 e9 | (have q := hB z5α S (S 6) (S 7) false false rfl rfl e8 e9; simp only [cond_true, cond_false] at q; exact q)) ?_
      refine o_from (bind_eqO h_z7) ?_
      refine o_call rfl rfl rfl callable27 (looks_cons (look_d rfl rfl (pr hp 0 rfl rfl)) (fun _ => rfl) (looks_cons (look_d rfl rfl (pr hp 1 rfl rfl)) (fun _ => rfl) (looks_nil))) (lattice_Meet_ok _ _) (o_eqO ?_)
      apply h_endA (α := z5α) (z5α.1, z5α.2)
      · exact (.same (.same (.same (.same (.same (.same (.same (.same (.same (.same .nil))))))))))
      · exact rfl
      · exact rfl
      · exact rfl
      · exact hB (z5α.1, z5α.2) (fun k => S k || Nat.beq k 5) (S 6) (S 7) false false (or_ne rfl) (or_ne rfl) (or_f e8 rfl) (or_f e9 rfl)
    · intro z5α S hc hk hp
      have e8 : S 8 = false := (not_yet (j := 8) (q := 0) hc hk rfl rfl rfl rfl)
      have e9 : S 9 = false := (not_yet (j := 9) (q := 9) hc hk rfl rfl rfl rfl)
      refine eq_H (H' := [.obj true z3 0 (.dat T_lattice_Label_rep) c_2, .obj true z2 0 (.dat T_lattice_Label_rep) b_1, .obj true z1 0 (.dat T_lattice_Label_rep) a_0, .gone, (cond (S 7) (.obj true (z5α.2) 0 (.dat T_lattice_Label_rep) T_lattice_Label_zero) (.gone))]) (by first | exact hB z5α S false (S 7) false false hk rfl e8 e9 | (have q := hB z5α S false (S 7) false false hk rfl e8 e9; simp only [cond_true, cond_false] at q; exact q)) ?_
      refine o_alloc zero48 rfl rfl (fun z8 => ?_)
      refine o_weak (H' := [.obj true z3 0 (.dat T_lattice_Label_rep) c_2, .obj true z2 0 (.dat T_lattice_Label_rep) b_1, .obj true z1 0 (.dat T_lattice_Label_rep) a_0, .obj true z8 0 (.dat T_lattice_Label_rep) T_lattice_Label_zero, (cond (S 7) (.obj true (z5α.2) 0 (.dat T_lattice_Label_rep) T_lattice_Label_zero) (.gone))]) (sub_pick [1, 2, 3, 0, 5] rfl rfl) ?_
      apply h_endA (α := z5α) (z8, z5α.2)
      · exact (.same (.same (.same (.same (.same (.same (.off hk (.same (.same (.same .nil))))))))))
      · exact rfl
      · exact rfl
      · exact rfl
      · exact hB (z8, z5α.2) (fun k => S k || Nat.beq k 6) true (S 7) false false (or_i rfl) (or_ne rfl) (or_f e8 rfl) (or_f e9 rfl)
    · intro z5α S hc hk hp
      have e8 : S 8 = false := (not_yet (j := 8) (q := 10) hc hk rfl rfl rfl rfl)
      have e9 : S 9 = false := (not_yet (j := 9) (q := 0) hc hk rfl rfl rfl rfl)
      refine eq_H (H' := [.obj true z3 0 (.dat T_lattice_Label_rep) c_2, .obj true z2 0 (.dat T_lattice_Label_rep) b_1, .obj true z1 0 (.dat T_lattice_Label_rep) a_0, (cond (S 6) (.obj true (z5α.1) 0 (.dat T_lattice_Label_rep) T_lattice_Label_zero) (.gone)), .gone]) (by first | exact hB z5α S (S 6) false false false rfl hk e8 e9 | (have q := hB z5α S (S 6) false false false rfl hk e8 e9; simp only [cond_true, cond_false] at q; exact q)) ?_
      refine o_alloc zero48 rfl rfl (fun z9 => ?_)
      refine o_weak (H' := [.obj true z3 0 (.dat T_lattice_Label_rep) c_2, .obj true z2 0 (.dat T_lattice_Label_rep) b_1, .obj true z1 0 (.dat T_lattice_Label_rep) a_0, (cond (S 6) (.obj true (z5α.1) 0 (.dat T_lattice_Label_rep) T_lattice_Label_zero) (.gone)), .obj true z9 0 (.dat T_lattice_Label_rep) T_lattice_Label_zero]) (sub_pick [1, 2, 3, 4, 0] rfl rfl) ?_
      apply h_endA (α := z5α) (z5α.1, z9)
      · exact (.same (.same (.same (.same (.same (.same (.same (.off hk (.same (.same .nil))))))))))
      · exact rfl
      · exact rfl
      · exact rfl
      · exact hB (z5α.1, z9) (fun k => S k || Nat.beq k 7) (S 6) true false false (or_ne rfl) (or_i rfl) (or_f e8 rfl) (or_f e9 rfl)
    · intro z5α S hc hk hp
      have e6 : S 6 = true := (pr hp 0 rfl rfl)
      have e7 : S 7 = true := (pr hp 10 rfl rfl)
      have e9 : S 9 = false := (not_yet (j := 9) (q := 2) hc hk rfl rfl rfl rfl)
      refine eq_H (H' := [.obj true z3 0 (.dat T_lattice_Label_rep) c_2, .obj true z2 0 (.dat T_lattice_Label_rep) b_1, .obj true z1 0 (.dat T_lattice_Label_rep) a_0, .obj true (z5α.1) 0 (.dat T_lattice_Label_rep) T_lattice_Label_zero, .obj true (z5α.2) 0 (.dat T_lattice_Label_rep) T_lattice_Label_zero]) (by first | exact hB z5α S true true false false e6 e7 hk e9 | (have q := hB z5α S true true false false e6 e7 hk e9; simp only [cond_true, cond_false] at q; exact q)) ?_
      refine o_weak (H' := [.obj true (z5α.1) 0 (.dat T_lattice_Label_rep) T_lattice_Label_zero, .obj true z3 0 (.dat T_lattice_Label_rep) c_2, .obj true z2 0 (.dat T_lattice_Label_rep) b_1, .obj true z1 0 (.dat T_lattice_Label_rep) a_0, .obj true (z5α.2) 0 (.dat T_lattice_Label_rep) T_lattice_Label_zero]) (sub_pick [3, 0, 1, 2, 4] rfl rfl) ?_
      refine o_ostore type48 foc_self guard_none (look_d rfl rfl (pr hp 0 rfl rfl)) (fun _ => rfl) (look_d rfl rfl (pr hp 1 rfl rfl)) (fun _ => rfl) ?_
      refine o_weak (H' := [.obj true z3 0 (.dat T_lattice_Label_rep) c_2, .obj true z2 0 (.dat T_lattice_Label_rep) b_1, .obj true z1 0 (.dat T_lattice_Label_rep) a_0, .obj true (z5α.1) 0 (.dat T_lattice_Label_rep) z6, .obj true (z5α.2) 0 (.dat T_lattice_Label_rep) T_lattice_Label_zero]) (sub_pick [1, 2, 3, 0, 4] rfl rfl) ?_
      refine h_none (n := 67) (d := 75) rfl rfl ?_
      apply h_endA (α := z5α) (z5α.1, z5α.2)
      · exact (.same (.same (.same (.same (.same (.same (.same (.same (.same (.same .nil))))))))))
      · exact rfl
      · exact rfl
      · exact rfl
      · exact hB (z5α.1, z5α.2) (fun k => S k || Nat.beq k 8) true true true false (or_t e6) (or_t e7) (or_i rfl) (or_f e9 rfl)
    · intro z5α S hc hk hp
      have e6 : S 6 = true := (pr hp 9 rfl rfl)
      have e7 : S 7 = true := (pr hp 0 rfl rfl)
      have e8 : S 8 = true := (pr hp 2 rfl rfl)
      refine eq_H (H' := [.obj true z3 0 (.dat T_lattice_Label_rep) c_2, .obj true z2 0 (.dat T_lattice_Label_rep) b_1, .obj true z1 0 (.dat T_lattice_Label_rep) a_0, .obj true (z5α.1) 0 (.dat T_lattice_Label_rep) z6, .obj true (z5α.2) 0 (.dat T_lattice_Label_rep) T_lattice_Label_zero]) (by first | exact hB z5α S true true true false e6 e7 e8 hk | (have q := hB z5α S true true true false e6 e7 e8 hk; simp only [cond_true, cond_false] at q; exact q)) ?_
      refine o_weak (H' := [.obj true (z5α.2) 0 (.dat T_lattice_Label_rep) T_lattice_Label_zero, .obj true z3 0 (.dat T_lattice_Label_rep) c_2, .obj true z2 0 (.dat T_lattice_Label_rep) b_1, .obj true z1 0 (.dat T_lattice_Label_rep) a_0, .obj true (z5α.1) 0 (.dat T_lattice_Label_rep) z6]) (sub_pick [4, 0, 1, 2, 3] rfl rfl) ?_
      refine o_ostore type48 foc_self guard_none (look_d rfl rfl (pr hp 0 rfl rfl)) (fun _ => rfl) (look_d rfl rfl (pr hp 1 rfl rfl)) (fun _ => rfl) ?_
      refine o_weak (H' := [.obj true z3 0 (.dat T_lattice_Label_rep) c_2, .obj true z2 0 (.dat T_lattice_Label_rep) b_1, .obj true z1 0 (.dat T_lattice_Label_rep) a_0, .obj true (z5α.1) 0 (.dat T_lattice_Label_rep) z6, .obj true (z5α.2) 0 (.dat T_lattice_Label_rep) z7]) (sub_pick [1, 2, 3, 4, 0] rfl rfl) ?_
      refine h_none (n := 67) (d := 76) rfl rfl ?_
      apply h_endA (α := z5α) (z5α.1, z5α.2)
      · exact (.same (.same (.same (.same (.same (.same (.same (.same (.same (.same .nil))))))))))
      · exact rfl
      · exact rfl
      · exact rfl
      · exact hB (z5α.1, z5α.2) (fun k => S k || Nat.beq k 9) true true true true (or_t e6) (or_t e7) (or_t e8) (or_i rfl)
    refine den_seq ?_
    refine den_region rfl ?_
    refine o_oloadi 2 rfl type48 foc_self rfl guard_none (look_tmp rfl) (fun _ => rfl) ?_
    refine o_oloadi 0 rfl type48 foc_self rfl guard_none (look_tmp rfl) (fun _ => rfl) ?_
    refine o_call rfl rfl rfl callable33 (looks_cons (look_tmp rfl) (fun _ => rfl) (looks_cons (look_tmp rfl) (fun _ => rfl) (looks_nil))) (lattice_Under_ok _ _) (fun z10 => ?_)
    refine o_move rfl rfl guard_none (look_tmp rfl) (fun _ => rfl) ?_
    refine o_oloadi 1 rfl type48 foc_self rfl (guard_some rfl rfl rfl) (look_tmp rfl) (fun _ => rfl) ?_
    refine o_oloadi 0 rfl type48 foc_self rfl (guard_some rfl rfl rfl) (look_tmp rfl) (fun _ => rfl) ?_
    refine o_callg rfl rfl rfl (guard_some rfl rfl rfl) callable33 (looks_cons (look_tmp rfl) (fun h => h) (looks_cons (look_tmp rfl) (fun h => h) (looks_nil))) (lattice_Under_ok _ _) (fun z11 => ?_)
    refine o_pick rfl rfl guard_none (look_tmp rfl) (look_tmp rfl) look_bool (fun _ => rfl) (fun h1 h2 => pick_t ((fun _ => rfl) h1) h2) (fun _ _ => rfl) ?_
    refine o_assign rfl rfl guard_none (look_tmp rfl) (fun _ => rfl) ?_
    refine o_end ?_
    refine den_seq ?_
    refine den_region rfl ?_
    refine o_oloadi 0 rfl type48 foc_self rfl guard_none (look_tmp rfl) (fun _ => rfl) ?_
    refine o_oloadi 2 rfl type48 foc_self rfl guard_none (look_tmp rfl) (fun _ => rfl) ?_
    refine o_call rfl rfl rfl callable33 (looks_cons (look_tmp rfl) (fun _ => rfl) (looks_cons (look_tmp rfl) (fun _ => rfl) (looks_nil))) (lattice_Under_ok _ _) (fun z12 => ?_)
    refine o_move rfl rfl guard_none (look_tmp rfl) (fun _ => rfl) ?_
    refine o_oloadi 0 rfl type48 foc_self rfl (guard_some rfl rfl rfl) (look_tmp rfl) (fun _ => rfl) ?_
    refine o_oloadi 1 rfl type48 foc_self rfl (guard_some rfl rfl rfl) (look_tmp rfl) (fun _ => rfl) ?_
    refine o_callg rfl rfl rfl (guard_some rfl rfl rfl) callable33 (looks_cons (look_tmp rfl) (fun h => h) (looks_cons (look_tmp rfl) (fun h => h) (looks_nil))) (lattice_Under_ok _ _) (fun z13 => ?_)
    refine o_pick rfl rfl guard_none (look_tmp rfl) (look_tmp rfl) look_bool (fun _ => rfl) (fun h1 h2 => pick_t ((fun _ => rfl) h1) h2) (fun _ _ => rfl) ?_
    refine o_assign rfl rfl guard_none (look_tmp rfl) (fun _ => rfl) ?_
    refine o_end ?_
    refine den_seq ?_
    refine den_region rfl ?_
    refine o_oloadi 2 rfl type48 foc_self rfl guard_none (look_tmp rfl) (fun _ => rfl) ?_
    refine o_oloadi 3 rfl type48 foc_self rfl guard_none (look_tmp rfl) (fun _ => rfl) ?_
    refine o_call rfl rfl rfl callable33 (looks_cons (look_tmp rfl) (fun _ => rfl) (looks_cons (look_tmp rfl) (fun _ => rfl) (looks_nil))) (lattice_Under_ok _ _) (fun z14 => ?_)
    refine o_move rfl rfl guard_none (look_tmp rfl) (fun _ => rfl) ?_
    refine o_oloadi 1 rfl type48 foc_self rfl (guard_some rfl rfl rfl) (look_tmp rfl) (fun _ => rfl) ?_
    refine o_oloadi 3 rfl type48 foc_self rfl (guard_some rfl rfl rfl) (look_tmp rfl) (fun _ => rfl) ?_
    refine o_callg rfl rfl rfl (guard_some rfl rfl rfl) callable33 (looks_cons (look_tmp rfl) (fun h => h) (looks_cons (look_tmp rfl) (fun h => h) (looks_nil))) (lattice_Under_ok _ _) (fun z15 => ?_)
    refine o_pick rfl rfl guard_none (look_tmp rfl) (look_tmp rfl) look_bool (fun _ => rfl) (fun h1 h2 => pick_t ((fun _ => rfl) h1) h2) (fun _ _ => rfl) ?_
    refine o_move rfl rfl guard_none (look_tmp rfl) (fun _ => rfl) ?_
    refine o_move rfl rfl (guard_some rfl rfl rfl) (look_tmp rfl) (fun _ => rfl) ?_
    refine o_oloadi 3 rfl type48 foc_self rfl (guard_some rfl rfl rfl) (look_tmp rfl) (fun _ => rfl) ?_
    refine o_oloadi 0 rfl type48 foc_self rfl (guard_some rfl rfl rfl) (look_tmp rfl) (fun _ => rfl) ?_
    refine o_callg rfl rfl rfl (guard_some rfl rfl rfl) callable33 (looks_cons (look_tmp rfl) (fun h => h) (looks_cons (look_tmp rfl) (fun h => h) (looks_nil))) (lattice_Under_ok _ _) (fun z16 => ?_)
    refine o_beql Try.underlying4 rfl rfl (guard_some rfl rfl rfl) (look_tmp rfl) (look_tmp rfl) (fun h => h) (fun h => h) ?_
    refine o_pick rfl rfl guard_none (look_tmp rfl) (look_tmp rfl) look_bool (fun _ => rfl) (fun h1 h2 => pick_t ((fun _ => rfl) h1) h2) (fun _ _ => rfl) ?_
    refine o_move rfl rfl guard_none (look_tmp rfl) (fun _ => rfl) ?_
    refine o_oloadi 4 rfl type48 foc_self rfl (guard_some rfl rfl rfl) (look_tmp rfl) (fun _ => rfl) ?_
    refine o_oloadi 2 rfl type48 foc_self rfl (guard_some rfl rfl rfl) (look_tmp rfl) (fun _ => rfl) ?_
    refine o_callg rfl rfl rfl (guard_some rfl rfl rfl) callable33 (looks_cons (look_tmp rfl) (fun h => h) (looks_cons (look_tmp rfl) (fun h => h) (looks_nil))) (lattice_Under_ok _ _) (fun z17 => ?_)
    refine o_pick rfl rfl guard_none (look_tmp rfl) (look_tmp rfl) look_bool (fun _ => rfl) (fun h1 h2 => pick_t ((fun _ => rfl) h1) h2) (fun _ _ => rfl) ?_
    refine o_move rfl rfl guard_none (look_tmp rfl) (fun _ => rfl) ?_
    refine o_oloadi 4 rfl type48 foc_self rfl (guard_some rfl rfl rfl) (look_tmp rfl) (fun _ => rfl) ?_
    refine o_oloadi 1 rfl type48 foc_self rfl (guard_some rfl rfl rfl) (look_tmp rfl) (fun _ => rfl) ?_
    refine o_callg rfl rfl rfl (guard_some rfl rfl rfl) callable33 (looks_cons (look_tmp rfl) (fun h => h) (looks_cons (look_tmp rfl) (fun h => h) (looks_nil))) (lattice_Under_ok _ _) (fun z18 => ?_)
    refine o_pick rfl rfl guard_none (look_tmp rfl) (look_tmp rfl) look_bool (fun _ => rfl) (fun h1 h2 => pick_t ((fun _ => rfl) h1) h2) (fun _ _ => rfl) ?_
    refine o_move rfl rfl guard_none (look_tmp rfl) (fun _ => rfl) ?_
    refine o_move rfl rfl (guard_some rfl rfl rfl) (look_tmp rfl) (fun _ => rfl) ?_
    refine o_oloadi 0 rfl type48 foc_self rfl (guard_some rfl rfl rfl) (look_tmp rfl) (fun _ => rfl) ?_
    refine o_oloadi 4 rfl type48 foc_self rfl (guard_some rfl rfl rfl) (look_tmp rfl) (fun _ => rfl) ?_
    refine o_callg rfl rfl rfl (guard_some rfl rfl rfl) callable33 (looks_cons (look_tmp rfl) (fun h => h) (looks_cons (look_tmp rfl) (fun h => h) (looks_nil))) (lattice_Under_ok _ _) (fun z19 => ?_)
    refine o_beql Try.underlying4 rfl rfl (guard_some rfl rfl rfl) (look_tmp rfl) (look_tmp rfl) (fun h => h) (fun h => h) ?_
    refine o_pick rfl rfl guard_none (look_tmp rfl) (look_tmp rfl) look_bool (fun _ => rfl) (fun h1 h2 => pick_t ((fun _ => rfl) h1) h2) (fun _ _ => rfl) ?_
    refine o_assign rfl rfl guard_none (look_tmp rfl) (fun _ => rfl) ?_
    refine o_lt (fun z20 => ?_)
    refine o_end ?_
    refine den_code_ret ?_
    exact dene_res (res1 rfl (rv_tmp rfl))

theorem law32_LatticeFlows_ok  (one_0 : T_lattice_Label) (other_1 : T_lattice_Label) (a_2 : T_lattice_Label) (through_3 : T_lattice_Label) (to_4 : T_lattice_Label) : FunOk Try.prog 10 [⟨T_lattice_Label_rep, one_0, true⟩, ⟨T_lattice_Label_rep, other_1, true⟩, ⟨T_lattice_Label_rep, a_2, true⟩, ⟨T_lattice_Label_rep, through_3, true⟩, ⟨T_lattice_Label_rep, to_4, true⟩] (law32_LatticeFlows one_0 other_1 a_2 through_3 to_4) (Rep.bool) := by
  refine fun_ok Try.func10 rfl Try.ntmps10 rfl (all_cons rfl (all_cons rfl (all_cons rfl (all_cons rfl (all_cons rfl all_nil))))) (fun w0 ok0 => ?_)
  refine den_seq ?_
  refine den_region rfl ?_
  refine o_box rfl rfl (look_tmp rfl) rfl (fun z1 => ?_)
  refine o_box rfl rfl (look_tmp rfl) rfl (fun z2 => ?_)
  refine o_box rfl rfl (look_tmp rfl) rfl (fun z3 => ?_)
  refine o_box rfl rfl (look_tmp rfl) rfl (fun z4 => ?_)
  refine o_box rfl rfl (look_tmp rfl) rfl (fun z5 => ?_)
  refine o_assign rfl rfl guard_none look_bool (fun _ => rfl) ?_
  refine o_end ?_
  refine den_seq ?_
  refine den_seq ?_
  refine den_region rfl ?_
  refine o_call rfl rfl rfl callable24 (looks_nil) (law32_alive_ok) (fun z6 => ?_)
  refine o_not rfl rfl guard_none (look_tmp rfl) (fun _ => rfl) ?_
  refine o_end ?_
  refine den_cond (look_tmp rfl) ?_ ?_
  · refine den_seq ?_
    refine den_region rfl ?_
    refine o_assign rfl rfl guard_none look_bool (fun _ => rfl) ?_
    refine o_end ?_
    refine den_code_ret ?_
    refine dene_ret ?_
    exact dene_res (res1 rfl (rv_tmp rfl))
  · refine den_skip ?_
    refine den_seq ?_
    refine den_region rfl ?_
    refine o_oloadi 4 rfl type48 foc_self rfl guard_none (look_tmp rfl) (fun _ => rfl) ?_
    refine o_oloadi 2 rfl type48 foc_self rfl guard_none (look_tmp rfl) (fun _ => rfl) ?_
    refine o_call rfl rfl rfl callable35 (looks_cons (look_tmp rfl) (fun _ => rfl) (looks_cons (look_tmp rfl) (fun _ => rfl) (looks_nil))) (lattice_Read_ok _ _) (fun z7 => ?_)
    refine o_move rfl rfl guard_none (look_tmp rfl) (fun _ => rfl) ?_
    refine o_oloadi 4 rfl type48 foc_self rfl (guard_some rfl rfl rfl) (look_tmp rfl) (fun _ => rfl) ?_
    refine o_oloadi 1 rfl type48 foc_self rfl (guard_some rfl rfl rfl) (look_tmp rfl) (fun _ => rfl) ?_
    refine o_callg rfl rfl rfl (guard_some rfl rfl rfl) callable34 (looks_cons (look_tmp rfl) (fun h => h) (looks_cons (look_tmp rfl) (fun h => h) (looks_nil))) (lattice_Write_ok _ _) (fun z8 => ?_)
    refine o_pick rfl rfl guard_none (look_tmp rfl) (look_tmp rfl) look_bool (fun _ => rfl) (fun h1 h2 => pick_t ((fun _ => rfl) h1) h2) (fun _ _ => rfl) ?_
    refine o_assign rfl rfl guard_none (look_tmp rfl) (fun _ => rfl) ?_
    refine o_end ?_
    refine den_seq ?_
    refine den_region rfl ?_
    refine o_oloadi 3 rfl type48 foc_self rfl guard_none (look_tmp rfl) (fun _ => rfl) ?_
    refine o_oloadi 1 rfl type48 foc_self rfl guard_none (look_tmp rfl) (fun _ => rfl) ?_
    refine o_call rfl rfl rfl callable35 (looks_cons (look_tmp rfl) (fun _ => rfl) (looks_cons (look_tmp rfl) (fun _ => rfl) (looks_nil))) (lattice_Read_ok _ _) (fun z9 => ?_)
    refine o_move rfl rfl guard_none (look_tmp rfl) (fun _ => rfl) ?_
    refine o_oloadi 3 rfl type48 foc_self rfl (guard_some rfl rfl rfl) (look_tmp rfl) (fun _ => rfl) ?_
    refine o_oloadi 0 rfl type48 foc_self rfl (guard_some rfl rfl rfl) (look_tmp rfl) (fun _ => rfl) ?_
    refine o_callg rfl rfl rfl (guard_some rfl rfl rfl) callable34 (looks_cons (look_tmp rfl) (fun h => h) (looks_cons (look_tmp rfl) (fun h => h) (looks_nil))) (lattice_Write_ok _ _) (fun z10 => ?_)
    refine o_pick rfl rfl guard_none (look_tmp rfl) (look_tmp rfl) look_bool (fun _ => rfl) (fun h1 h2 => pick_t ((fun _ => rfl) h1) h2) (fun _ _ => rfl) ?_
    refine o_assign rfl rfl guard_none (look_tmp rfl) (fun _ => rfl) ?_
    refine o_end ?_
    refine den_seq ?_
    refine den_region rfl ?_
    refine o_move rfl rfl guard_none (look_tmp rfl) (fun _ => rfl) ?_
    refine o_not rfl rfl guard_none (look_tmp rfl) (fun _ => rfl) ?_
    refine o_move rfl rfl guard_none (look_tmp rfl) (fun _ => rfl) ?_
    refine o_oloadi 2 rfl type48 foc_self rfl (guard_some rfl rfl rfl) (look_tmp rfl) (fun _ => rfl) ?_
    refine o_oloadi 1 rfl type48 foc_self rfl (guard_some rfl rfl rfl) (look_tmp rfl) (fun _ => rfl) ?_
    refine o_callg rfl rfl rfl (guard_some rfl rfl rfl) callable33 (looks_cons (look_tmp rfl) (fun h => h) (looks_cons (look_tmp rfl) (fun h => h) (looks_nil))) (lattice_Under_ok _ _) (fun z11 => ?_)
    refine o_pick rfl rfl guard_none (look_tmp rfl) look_bool (look_tmp rfl) (fun _ => rfl) (fun _ _ => rfl) (fun h1 h2 => pick_f ((fun _ => rfl) h1) h2) ?_
    refine o_move rfl rfl guard_none (look_tmp rfl) (fun _ => rfl) ?_
    refine o_move rfl rfl (guard_some rfl rfl rfl) (look_tmp rfl) (fun _ => rfl) ?_
    refine o_not rfl rfl (guard_some rfl rfl rfl) (look_tmp rfl) (fun h => h) ?_
    refine o_move rfl rfl (guard_some rfl rfl rfl) (look_tmp rfl) (fun h => h) ?_
    refine o_move rfl rfl (guard_some rfl rfl rfl) (look_tmp rfl) (fun _ => rfl) ?_
    refine o_not rfl rfl (guard_some rfl rfl rfl) (look_tmp rfl) (fun h => h) ?_
    refine o_pick rfl rfl (guard_some rfl rfl rfl) (look_tmp rfl) look_bool (look_tmp rfl) (fun h => h) (fun _ _ => rfl) (fun h1 h2 => pick_f ((fun h => h) h1) h2) ?_
    refine o_move rfl rfl (guard_some rfl rfl rfl) (look_tmp rfl) (fun h => h) ?_
    refine o_oloadi 2 rfl type48 foc_self rfl (guard_some rfl rfl rfl) (look_tmp rfl) (fun _ => rfl) ?_
    refine o_oloadi 0 rfl type48 foc_self rfl (guard_some rfl rfl rfl) (look_tmp rfl) (fun _ => rfl) ?_
    refine o_callg rfl rfl rfl (guard_some rfl rfl rfl) callable33 (looks_cons (look_tmp rfl) (fun h => h) (looks_cons (look_tmp rfl) (fun h => h) (looks_nil))) (lattice_Under_ok _ _) (fun z12 => ?_)
    refine o_pick rfl rfl (guard_some rfl rfl rfl) (look_tmp rfl) look_bool (look_tmp rfl) (fun h => h) (fun _ _ => rfl) (fun h1 h2 => pick_f ((fun h => h) h1) h2) ?_
    refine o_pick rfl rfl guard_none (look_tmp rfl) (look_tmp rfl) look_bool (fun _ => rfl) (fun h1 h2 => pick_t ((fun _ => rfl) h1) h2) (fun _ _ => rfl) ?_
    refine o_assign rfl rfl guard_none (look_tmp rfl) (fun _ => rfl) ?_
    refine o_lt (fun z13 => ?_)
    refine o_end ?_
    refine den_code_ret ?_
    exact dene_res (res1 rfl (rv_tmp rfl))

end Go.Proofs.Ytiaackeooiemjaa.M
