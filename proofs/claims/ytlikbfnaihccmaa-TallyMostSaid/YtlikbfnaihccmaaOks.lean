/- That the Go functions answer as the plain ones: written by gen2.py. -/
import Derived.Test.YtlikbfnaihccmaaOks1
namespace Go.Proofs.Ytlikbfnaihccmaa.M
open Go.Eng Go
set_option linter.unusedVariables false

theorem tally_New_ok  (hi_0 : Int) : FunOkI Try.prog 22 [⟨Rep.int .i64, hi_0, true⟩] [] (tally_New hi_0) (Rep.addr) (fun (α : ((Nat × Nat) × Value)) (y : T_tally_Tally) => α.1) (fun α y => [.vec α.2 (T_deque_Cell_rep) y.was.cells, .obj true α.1.1 α.1.2 (.dat (T_tally_Tally_repo α.2)) y]) := by
  refine fun_okI Try.func22 rfl Try.ntmps22 rfl (all_cons rfl all_nil) (fun w0 ok0 M => ?_)
  refine den_seq ?_
  refine den_region rfl ?_
  refine o_assign rfl rfl guard_none look_nilp (fun _ => rfl) ?_
  refine o_end ?_
  refine den_seq ?_
  refine den_region rfl ?_
  refine o_move rfl rfl guard_none (look_tmp rfl) (fun _ => rfl) ?_
  refine o_max2 rfl rfl guard_none (look_tmp rfl) (look_int rfl) (fun _ => rfl) (fun _ => rfl) ?_
  refine o_weak (sub_nilvec (R := T_deque_Cell_rep) rfl) ?_
  refine o_build (R := T_tally_Tally_repo0 (.slice none 0 0)) (f := T_tally_Tally_tupo) (y := (⟨max hi_0 0, 0, true, T_deque_Deque_zero⟩ : T_tally_Tally)) shape53 rfl rfl rfl rfl guard_none (bld_part rfl rfl (look_tmp rfl) (fun _ => rfl) (bld_zero (z_int rfl) (bld_part rfl rfl look_bool (fun _ => rfl) (bld_zero (z_iso (z_cons (z_isv rfl) (z_cons (z_int rfl) (z_cons (z_int rfl) z_nil0))) rfl) (bld_nil))))) ?_
  refine o_box rfl rfl (look_tmp rfl) rfl (fun z1 => ?_)
  refine o_assign rfl rfl guard_none (look_tmp rfl) (fun _ => rfl) ?_
  refine o_end ?_
  refine den_code_ret ?_
  refine dene_weak (H' := [.obj true z1 0 (.dat (T_tally_Tally_repo (.slice none 0 0))) (⟨max hi_0 0, 0, true, T_deque_Deque_zero⟩ : T_tally_Tally), .vec (.slice none 0 0) (T_deque_Cell_rep) ([] : List T_deque_Cell)]) (sub_pick [0, 1] rfl rfl) ?_
  refine dene_weak (sub_redat ({ (⟨max hi_0 0, 0, true, T_deque_Deque_zero⟩ : T_tally_Tally) with was := { T_deque_Deque_zero with cells := ([] : List T_deque_Cell) } }) (fun _ _ _ h => h)) ?_
  exact dene_resI ((z1, 0), (.slice none 0 0)) (res1 rfl (rv_tmp rfl)) (fun _ _ _ k => ato_pick [1, 0] rfl rfl k)

theorem tally_Tally_Step_ok (blk0 : Nat) (off0 : Nat) (val0_0 : Value) (t_0 : T_tally_Tally) (a_1 : Int) (is_2 : Bool) : FunOkI Try.prog 23 [⟨.addr, (blk0, off0), true⟩, ⟨Rep.int .i64, a_1, true⟩, ⟨Rep.bool, is_2, true⟩] [.vec val0_0 (T_deque_Cell_rep) t_0.was.cells, .obj true blk0 off0 (.dat (T_tally_Tally_repo val0_0)) t_0] (tally_Tally_Step t_0 a_1 is_2) (Rep.int .i64) (fun (α : Value) (y : (Int × T_tally_Tally)) => y.1) (fun α y => [.vec α (T_deque_Cell_rep) y.2.was.cells, .obj true blk0 off0 (.dat (T_tally_Tally_repo α)) y.2]) := by
  refine fun_okI Try.func23 rfl Try.ntmps23 rfl (all_cons rfl (all_cons rfl (all_cons rfl all_nil))) (fun w0 ok0 M => ?_)
  refine den_seq ?_
  refine den_region rfl ?_
  refine o_assign rfl rfl guard_none (look_int rfl) (fun _ => rfl) ?_
  refine o_end ?_
  refine den_seq ?_
  refine den_seq ?_
  refine den_region rfl ?_
  refine o_move rfl rfl guard_none (look_tmp rfl) (fun _ => rfl) ?_
  refine o_peql Try.underlying39 rfl rfl guard_none (look_tmp rfl) (fun _ => rfl) ?_
  refine o_move rfl rfl guard_none (look_tmp rfl) (fun _ => rfl) ?_
  refine o_move rfl rfl (guard_some rfl rfl rfl) (look_tmp rfl) (fun _ => rfl) ?_
  refine o_nilc rfl rfl (guard_some rfl rfl rfl) (look_tmp rfl) (fun h => h) ?_
  refine o_faddr field53_2 type4 (by decide) rfl rfl (guard_some rfl rfl rfl) (look_tmp rfl) (fun h => h) ?_
  refine o_oloadi 1 rfl type4 (T_tally_Tally_foco2 val0_0) rfl (guard_some rfl rfl rfl) (look_tmp rfl) (fun h => h) ?_
  refine o_not rfl rfl (guard_some rfl rfl rfl) (look_tmp rfl) (fun h => h) ?_
  refine o_pick rfl rfl guard_none (look_tmp rfl) look_bool (look_tmp rfl) (fun _ => rfl) (fun _ _ => rfl) (fun h1 h2 => pick_f ((fun _ => rfl) h1) h2) ?_
  refine o_end ?_
  refine den_cond (look_tmp rfl) ?_ ?_
  · refine den_seq ?_
    refine den_region rfl ?_
    refine o_assign rfl rfl guard_none (look_int rfl) (fun _ => rfl) ?_
    refine o_end ?_
    refine den_code_ret ?_
    refine dene_ret ?_
    exact dene_resI val0_0 (res1 rfl (rv_tmp rfl)) (fun _ _ _ k => ato_pick [0, 1] rfl rfl k)
  · refine den_skip ?_
    refine den_seq ?_
    refine den_region rfl ?_
    refine o_move rfl rfl guard_none (look_tmp rfl) (fun _ => rfl) ?_
    refine o_move rfl rfl guard_none (look_tmp rfl) (fun _ => rfl) ?_
    refine o_nilc rfl rfl guard_none (look_tmp rfl) (fun _ => rfl) ?_
    refine o_faddr field53_1 type2 (by decide) rfl rfl guard_none (look_tmp rfl) (fun _ => rfl) ?_
    refine o_oloadi 1 rfl type2 (T_tally_Tally_foco1 val0_0) rfl guard_none (look_tmp rfl) (fun _ => rfl) ?_
    refine o_move rfl rfl guard_none (look_tmp rfl) (fun _ => rfl) ?_
    refine o_max2 rfl rfl guard_none (look_tmp rfl) (look_tmp rfl) (fun _ => rfl) (fun _ => rfl) ?_
    refine o_nilc rfl rfl guard_none (look_tmp rfl) (fun _ => rfl) ?_
    refine o_faddr field53_1 type2 (by decide) rfl rfl guard_none (look_tmp rfl) (fun _ => rfl) ?_
    refine o_weak (H' := [.obj true blk0 off0 (.dat (T_tally_Tally_repo val0_0)) t_0, .vec val0_0 (T_deque_Cell_rep) t_0.was.cells]) (sub_pick [1, 0] rfl rfl) ?_
    refine o_ostore type2 (T_tally_Tally_foco1 val0_0) guard_none (look_tmp rfl) (fun _ => rfl) (look_tmp rfl) (fun _ => rfl) ?_
    refine o_end ?_
    refine den_seq ?_
    refine den_open (fun z2 h_z2 => ?_)
    have hB : ∀ (z1α : Value) (S : Nat → Bool) (b12 : Bool), S 12 = b12 → (([(cond (S 12) (.obj true blk0 off0 (.dat (T_tally_Tally_repo z1α)) ({ ({ t_0 with last := max t_0.last a_1 }) with was := z2.2 })) (.obj true blk0 off0 (.dat (T_tally_Tally_repo val0_0)) ({ t_0 with last := max t_0.last a_1 }))), (cond (S 12) (.gone) (.vec val0_0 (T_deque_Cell_rep) t_0.was.cells)), (cond (S 12) (.vec (z1α) (T_deque_Cell_rep) z2.2.cells) (.gone))] : List Go.Eng.Item)) = ([(cond b12 (.obj true blk0 off0 (.dat (T_tally_Tally_repo z1α)) ({ ({ t_0 with last := max t_0.last a_1 }) with was := z2.2 })) (.obj true blk0 off0 (.dat (T_tally_Tally_repo val0_0)) ({ t_0 with last := max t_0.last a_1 }))), (cond b12 (.gone) (.vec val0_0 (T_deque_Cell_rep) t_0.was.cells)), (cond b12 (.vec (z1α) (T_deque_Cell_rep) z2.2.cells) (.gone))] : List Go.Eng.Item) := fun z1α S b12 h12 => by subst h12; rfl
    refine den_weak sub_gone ?_
    refine den_weak (sub_pick (H' := [.obj true blk0 off0 (.dat (T_tally_Tally_repo val0_0)) ({ t_0 with last := max t_0.last a_1 }), .vec val0_0 (T_deque_Cell_rep) t_0.was.cells, .gone]) [1, 2, 0] rfl rfl) ?_
    refine den_drawA (A := Value) (H' := fun z1α => [.obj true blk0 off0 (.dat (T_tally_Tally_repo z1α)) ({ ({ t_0 with last := max t_0.last a_1 }) with was := z2.2 }), .gone, .vec (z1α) (T_deque_Cell_rep) z2.2.cells]) (fun z1α => [(25, ⟨Rep.addr, (blk0, off0), true⟩), (26, ⟨Rep.addr, (blk0, off0), true⟩), (27, ⟨Rep.addr, (blk0, off0 + 3), true⟩), (28, ⟨Rep.addr, (blk0, off0), true⟩), (29, ⟨Rep.addr, (blk0, off0), true⟩), (30, ⟨Rep.addr, (blk0, off0 + 1), true⟩), (31, ⟨Rep.int .i64, max t_0.last a_1, true⟩), (32, ⟨Rep.addr, (blk0, off0), true⟩), (33, ⟨Rep.addr, (blk0, off0), true⟩), (34, ⟨Rep.addr, (blk0, off0), true⟩), (35, ⟨Rep.int .i64, t_0.hi, true⟩), (36, ⟨Rep.int .i64, IntKind.i64.wrap ((max t_0.last a_1) - t_0.hi), true⟩), (37, ⟨Rep.int .i64, z2.1, true⟩)]) (fun z1α S => [(cond (S 12) (.obj true blk0 off0 (.dat (T_tally_Tally_repo z1α)) ({ ({ t_0 with last := max t_0.last a_1 }) with was := z2.2 })) (.obj true blk0 off0 (.dat (T_tally_Tally_repo val0_0)) ({ t_0 with last := max t_0.last a_1 }))), (cond (S 12) (.gone) (.vec val0_0 (T_deque_Cell_rep) t_0.was.cells)), (cond (S 12) (.vec (z1α) (T_deque_Cell_rep) z2.2.cells) (.gone))]) (.slice none 0 0) mixed (fun _ => rfl) rfl rfl (fun z1α S hS => hB z1α S true (hS 12 (by decide))) ⟨?_, ?_, ?_, ?_, ?_, ?_, ?_, ?_, ?_, ?_, ?_, ?_, ?_, trivial⟩ (fun z1α => ?_)
    · intro z1α S hc hk hp
      have e12 : S 12 = false := (not_yet (j := 12) (q := 0) hc (not_yet (j := 2) (q := 0) hc (not_yet (j := 1) (q := 0) hc hk rfl rfl rfl rfl) rfl rfl rfl rfl) rfl rfl rfl rfl)
      refine eq_H (H' := [.obj true blk0 off0 (.dat (T_tally_Tally_repo val0_0)) ({ t_0 with last := max t_0.last a_1 }), .vec val0_0 (T_deque_Cell_rep) t_0.was.cells, .gone]) (by first | exact hB z1α S false e12 | (have q := hB z1α S false e12; simp only [cond_true, cond_false] at q; exact q)) ?_
      refine o_move rfl rfl guard_none (look_o rfl rfl) (fun _ => rfl) ?_
      apply h_endA (α := z1α) z1α
      · exact (.same (.same (.same (.same (.same (.same (.same (.same (.same (.same (.same (.same (.same .nil)))))))))))))
      · exact rfl
      · exact rfl
      · exact rfl
      · exact hB z1α (fun k => S k || Nat.beq k 0) false (or_f e12 rfl)
    · intro z1α S hc hk hp
      have e12 : S 12 = false := (not_yet (j := 12) (q := 0) hc (not_yet (j := 2) (q := 0) hc hk rfl rfl rfl rfl) rfl rfl rfl rfl)
      refine eq_H (H' := [.obj true blk0 off0 (.dat (T_tally_Tally_repo val0_0)) ({ t_0 with last := max t_0.last a_1 }), .vec val0_0 (T_deque_Cell_rep) t_0.was.cells, .gone]) (by first | exact hB z1α S false e12 | (have q := hB z1α S false e12; simp only [cond_true, cond_false] at q; exact q)) ?_
      refine o_nilc rfl rfl guard_none (look_d rfl rfl (pr hp 0 rfl rfl)) (fun _ => rfl) ?_
      apply h_endA (α := z1α) z1α
      · exact (.same (.same (.same (.same (.same (.same (.same (.same (.same (.same (.same (.same (.same .nil)))))))))))))
      · exact rfl
      · exact rfl
      · exact rfl
      · exact hB z1α (fun k => S k || Nat.beq k 1) false (or_f e12 rfl)
    · intro z1α S hc hk hp
      have e12 : S 12 = false := (not_yet (j := 12) (q := 0) hc hk rfl rfl rfl rfl)
      refine eq_H (H' := [.obj true blk0 off0 (.dat (T_tally_Tally_repo val0_0)) ({ t_0 with last := max t_0.last a_1 }), .vec val0_0 (T_deque_Cell_rep) t_0.was.cells, .gone]) (by first | exact hB z1α S false e12 | (have q := hB z1α S false e12; simp only [cond_true, cond_false] at q; exact q)) ?_
      refine o_faddr field53_3 type29 (by decide) rfl rfl guard_none (look_d rfl rfl (pr hp 0 rfl rfl)) (fun _ => rfl) ?_
      apply h_endA (α := z1α) z1α
      · exact (.same (.same (.same (.same (.same (.same (.same (.same (.same (.same (.same (.same (.same .nil)))))))))))))
      · exact rfl
      · exact rfl
      · exact rfl
      · exact hB z1α (fun k => S k || Nat.beq k 2) false (or_f e12 rfl)
    · intro z1α S hc hk hp
      have e12 : S 12 = false := (not_yet (j := 12) (q := 1) hc (not_yet (j := 11) (q := 0) hc (not_yet (j := 6) (q := 0) hc (not_yet (j := 5) (q := 0) hc (not_yet (j := 4) (q := 0) hc hk rfl rfl rfl rfl) rfl rfl rfl rfl) rfl rfl rfl rfl) rfl rfl rfl rfl) rfl rfl rfl rfl)
      refine eq_H (H' := [.obj true blk0 off0 (.dat (T_tally_Tally_repo val0_0)) ({ t_0 with last := max t_0.last a_1 }), .vec val0_0 (T_deque_Cell_rep) t_0.was.cells, .gone]) (by first | exact hB z1α S false e12 | (have q := hB z1α S false e12; simp only [cond_true, cond_false] at q; exact q)) ?_
      refine o_move rfl rfl guard_none (look_o rfl rfl) (fun _ => rfl) ?_
      apply h_endA (α := z1α) z1α
      · exact (.same (.same (.same (.same (.same (.same (.same (.same (.same (.same (.same (.same (.same .nil)))))))))))))
      · exact rfl
      · exact rfl
      · exact rfl
      · exact hB z1α (fun k => S k || Nat.beq k 3) false (or_f e12 rfl)
    · intro z1α S hc hk hp
      have e12 : S 12 = false := (not_yet (j := 12) (q := 1) hc (not_yet (j := 11) (q := 0) hc (not_yet (j := 6) (q := 0) hc (not_yet (j := 5) (q := 0) hc hk rfl rfl rfl rfl) rfl rfl rfl rfl) rfl rfl rfl rfl) rfl rfl rfl rfl)
      refine eq_H (H' := [.obj true blk0 off0 (.dat (T_tally_Tally_repo val0_0)) ({ t_0 with last := max t_0.last a_1 }), .vec val0_0 (T_deque_Cell_rep) t_0.was.cells, .gone]) (by first | exact hB z1α S false e12 | (have q := hB z1α S false e12; simp only [cond_true, cond_false] at q; exact q)) ?_
      refine o_nilc rfl rfl guard_none (look_d rfl rfl (pr hp 0 rfl rfl)) (fun _ => rfl) ?_
      apply h_endA (α := z1α) z1α
      · exact (.same (.same (.same (.same (.same (.same (.same (.same (.same (.same (.same (.same (.same .nil)))))))))))))
      · exact rfl
      · exact rfl
      · exact rfl
      · exact hB z1α (fun k => S k || Nat.beq k 4) false (or_f e12 rfl)
    · intro z1α S hc hk hp
      have e12 : S 12 = false := (not_yet (j := 12) (q := 1) hc (not_yet (j := 11) (q := 0) hc (not_yet (j := 6) (q := 0) hc hk rfl rfl rfl rfl) rfl rfl rfl rfl) rfl rfl rfl rfl)
      refine eq_H (H' := [.obj true blk0 off0 (.dat (T_tally_Tally_repo val0_0)) ({ t_0 with last := max t_0.last a_1 }), .vec val0_0 (T_deque_Cell_rep) t_0.was.cells, .gone]) (by first | exact hB z1α S false e12 | (have q := hB z1α S false e12; simp only [cond_true, cond_false] at q; exact q)) ?_
      refine o_faddr field53_1 type2 (by decide) rfl rfl guard_none (look_d rfl rfl (pr hp 0 rfl rfl)) (fun _ => rfl) ?_
      apply h_endA (α := z1α) z1α
      · exact (.same (.same (.same (.same (.same (.same (.same (.same (.same (.same (.same (.same (.same .nil)))))))))))))
      · exact rfl
      · exact rfl
      · exact rfl
      · exact hB z1α (fun k => S k || Nat.beq k 5) false (or_f e12 rfl)
    · intro z1α S hc hk hp
      have e12 : S 12 = false := (not_yet (j := 12) (q := 1) hc (not_yet (j := 11) (q := 0) hc hk rfl rfl rfl rfl) rfl rfl rfl rfl)
      refine eq_H (H' := [.obj true blk0 off0 (.dat (T_tally_Tally_repo val0_0)) ({ t_0 with last := max t_0.last a_1 }), .vec val0_0 (T_deque_Cell_rep) t_0.was.cells, .gone]) (by first | exact hB z1α S false e12 | (have q := hB z1α S false e12; simp only [cond_true, cond_false] at q; exact q)) ?_
      refine o_oloadi 0 rfl type2 (T_tally_Tally_foco1 val0_0) rfl guard_none (look_d rfl rfl (pr hp 0 rfl rfl)) (fun _ => rfl) ?_
      apply h_endA (α := z1α) z1α
      · exact (.same (.same (.same (.same (.same (.same (.same (.same (.same (.same (.same (.same (.same .nil)))))))))))))
      · exact rfl
      · exact rfl
      · exact rfl
      · exact hB z1α (fun k => S k || Nat.beq k 6) false (or_f e12 rfl)
    · intro z1α S hc hk hp
      have e12 : S 12 = false := (not_yet (j := 12) (q := 1) hc (not_yet (j := 11) (q := 1) hc (not_yet (j := 10) (q := 0) hc (not_yet (j := 9) (q := 0) hc (not_yet (j := 8) (q := 0) hc hk rfl rfl rfl rfl) rfl rfl rfl rfl) rfl rfl rfl rfl) rfl rfl rfl rfl) rfl rfl rfl rfl)
      refine eq_H (H' := [.obj true blk0 off0 (.dat (T_tally_Tally_repo val0_0)) ({ t_0 with last := max t_0.last a_1 }), .vec val0_0 (T_deque_Cell_rep) t_0.was.cells, .gone]) (by first | exact hB z1α S false e12 | (have q := hB z1α S false e12; simp only [cond_true, cond_false] at q; exact q)) ?_
      refine o_move rfl rfl guard_none (look_o rfl rfl) (fun _ => rfl) ?_
      apply h_endA (α := z1α) z1α
      · exact (.same (.same (.same (.same (.same (.same (.same (.same (.same (.same (.same (.same (.same .nil)))))))))))))
      · exact rfl
      · exact rfl
      · exact rfl
      · exact hB z1α (fun k => S k || Nat.beq k 7) false (or_f e12 rfl)
    · intro z1α S hc hk hp
      have e12 : S 12 = false := (not_yet (j := 12) (q := 1) hc (not_yet (j := 11) (q := 1) hc (not_yet (j := 10) (q := 0) hc (not_yet (j := 9) (q := 0) hc hk rfl rfl rfl rfl) rfl rfl rfl rfl) rfl rfl rfl rfl) rfl rfl rfl rfl)
      refine eq_H (H' := [.obj true blk0 off0 (.dat (T_tally_Tally_repo val0_0)) ({ t_0 with last := max t_0.last a_1 }), .vec val0_0 (T_deque_Cell_rep) t_0.was.cells, .gone]) (by first | exact hB z1α S false e12 | (have q := hB z1α S false e12; simp only [cond_true, cond_false] at q; exact q)) ?_
      refine o_nilc rfl rfl guard_none (look_d rfl rfl (pr hp 0 rfl rfl)) (fun _ => rfl) ?_
      apply h_endA (α := z1α) z1α
      · exact (.same (.same (.same (.same (.same (.same (.same (.same (.same (.same (.same (.same (.same .nil)))))))))))))
      · exact rfl
      · exact rfl
      · exact rfl
      · exact hB z1α (fun k => S k || Nat.beq k 8) false (or_f e12 rfl)
    · intro z1α S hc hk hp
      have e12 : S 12 = false := (not_yet (j := 12) (q := 1) hc (not_yet (j := 11) (q := 1) hc (not_yet (j := 10) (q := 0) hc hk rfl rfl rfl rfl) rfl rfl rfl rfl) rfl rfl rfl rfl)
      refine eq_H (H' := [.obj true blk0 off0 (.dat (T_tally_Tally_repo val0_0)) ({ t_0 with last := max t_0.last a_1 }), .vec val0_0 (T_deque_Cell_rep) t_0.was.cells, .gone]) (by first | exact hB z1α S false e12 | (have q := hB z1α S false e12; simp only [cond_true, cond_false] at q; exact q)) ?_
      refine o_faddr field53_0 type2 (by decide) rfl rfl guard_none (look_d rfl rfl (pr hp 0 rfl rfl)) (fun _ => rfl) ?_
      apply h_endA (α := z1α) z1α
      · exact (.same (.same (.same (.same (.same (.same (.same (.same (.same (.same (.same (.same (.same .nil)))))))))))))
      · exact rfl
      · exact rfl
      · exact rfl
      · exact hB z1α (fun k => S k || Nat.beq k 9) false (or_f e12 rfl)
    · intro z1α S hc hk hp
      have e12 : S 12 = false := (not_yet (j := 12) (q := 1) hc (not_yet (j := 11) (q := 1) hc hk rfl rfl rfl rfl) rfl rfl rfl rfl)
      refine eq_H (H' := [.obj true blk0 off0 (.dat (T_tally_Tally_repo val0_0)) ({ t_0 with last := max t_0.last a_1 }), .vec val0_0 (T_deque_Cell_rep) t_0.was.cells, .gone]) (by first | exact hB z1α S false e12 | (have q := hB z1α S false e12; simp only [cond_true, cond_false] at q; exact q)) ?_
      refine o_oloadi 0 rfl type2 (T_tally_Tally_foco0 val0_0) rfl guard_none (look_d rfl rfl (pr hp 0 rfl rfl)) (fun _ => rfl) ?_
      apply h_endA (α := z1α) z1α
      · exact (.same (.same (.same (.same (.same (.same (.same (.same (.same (.same (.same (.same (.same .nil)))))))))))))
      · exact rfl
      · exact rfl
      · exact rfl
      · exact hB z1α (fun k => S k || Nat.beq k 10) false (or_f e12 rfl)
    · intro z1α S hc hk hp
      have e12 : S 12 = false := (not_yet (j := 12) (q := 1) hc hk rfl rfl rfl rfl)
      refine eq_H (H' := [.obj true blk0 off0 (.dat (T_tally_Tally_repo val0_0)) ({ t_0 with last := max t_0.last a_1 }), .vec val0_0 (T_deque_Cell_rep) t_0.was.cells, .gone]) (by first | exact hB z1α S false e12 | (have q := hB z1α S false e12; simp only [cond_true, cond_false] at q; exact q)) ?_
      refine o_sub rfl rfl guard_none (look_d rfl rfl (pr hp 0 rfl rfl)) (look_d rfl rfl (pr hp 1 rfl rfl)) (fun _ => rfl) (fun _ => rfl) ?_
      apply h_endA (α := z1α) z1α
      · exact (.same (.same (.same (.same (.same (.same (.same (.same (.same (.same (.same (.same (.same .nil)))))))))))))
      · exact rfl
      · exact rfl
      · exact rfl
      · exact hB z1α (fun k => S k || Nat.beq k 11) false (or_f e12 rfl)
    · intro z1α S hc hk hp
      refine eq_H (H' := [.obj true blk0 off0 (.dat (T_tally_Tally_repo val0_0)) ({ t_0 with last := max t_0.last a_1 }), .vec val0_0 (T_deque_Cell_rep) t_0.was.cells, .gone]) (by first | exact hB z1α S false hk | (have q := hB z1α S false hk; simp only [cond_true, cond_false] at q; exact q)) ?_
      refine o_from (bind_eqO h_z2) ?_
      refine o_weak (sub_part (R' := (T_tally_Tally_repo val0_0)) (S' := (T_deque_Deque_repo val0_0)) (T_tally_Tally_focw3 val0_0 val0_0) rfl) ?_
      refine o_weak (H' := [.obj true blk0 (off0 + 3) (.dat (T_deque_Deque_repo val0_0)) t_0.was, .hole true blk0 off0 3 ((T_deque_Deque_repo val0_0)).size (T_tally_Tally_repo val0_0) ({ t_0 with last := max t_0.last a_1 }), .vec val0_0 (T_deque_Cell_rep) t_0.was.cells, .gone]) (sub_pick [0, 1, 2, 3] rfl rfl) ?_
      refine o_weak (H' := [.vec val0_0 (T_deque_Cell_rep) t_0.was.cells, .obj true blk0 (off0 + 3) (.dat (T_deque_Deque_repo val0_0)) t_0.was] ++ ([] ++ [.hole true blk0 off0 3 ((T_deque_Deque_repo val0_0)).size (T_tally_Tally_repo val0_0) ({ t_0 with last := max t_0.last a_1 }), .gone])) (sub_pick [2, 0, 1, 3] rfl rfl) ?_
      refine o_callU rfl rfl rfl rfl rfl callable51 (looks_cons (look_d rfl rfl (pr hp 0 rfl rfl)) (fun _ => rfl) (looks_cons (look_d rfl rfl (pr hp 1 rfl rfl)) (fun _ => rfl) (looks_nil))) .nil (deque_Deque_Prune_ok _ _ _ t_0.was (IntKind.i64.wrap ((max t_0.last a_1) - t_0.hi))) (fun _ _ => (wr_v (wr_c wr_n))) (fun z3α => o_eqOH ?_)
      refine o_weak (H' := [.vec z3α (T_deque_Cell_rep) z2.2.cells, .obj true blk0 (off0 + 3) (.dat (T_deque_Deque_repo z3α)) z2.2, .hole true blk0 off0 3 ((T_deque_Deque_repo val0_0)).size (T_tally_Tally_repo val0_0) ({ t_0 with last := max t_0.last a_1 }), .gone]) (sub_pick [0, 1, 2, 3] rfl rfl) ?_
      refine o_weak (H' := [.obj true blk0 (off0 + 3) (.dat (T_deque_Deque_repo z3α)) z2.2, .hole true blk0 off0 3 ((T_deque_Deque_repo val0_0)).size (T_tally_Tally_repo val0_0) ({ t_0 with last := max t_0.last a_1 }), .vec z3α (T_deque_Cell_rep) z2.2.cells, .gone]) (sub_pick [1, 2, 0, 3] rfl rfl) ?_
      refine o_weak (sub_whole (T_tally_Tally_focw3 val0_0 z3α)) ?_
      refine o_weak (H' := [.obj true blk0 off0 (.dat (T_tally_Tally_repo z3α)) ({ ({ t_0 with last := max t_0.last a_1 }) with was := z2.2 }), .vec z3α (T_deque_Cell_rep) z2.2.cells, .gone]) (sub_pick [0, 1, 2] rfl rfl) ?_
      refine o_weak sub_gone ?_
      refine o_weak (H' := [.obj true blk0 off0 (.dat (T_tally_Tally_repo z3α)) ({ ({ t_0 with last := max t_0.last a_1 }) with was := z2.2 }), .gone, .vec z3α (T_deque_Cell_rep) z2.2.cells]) (sub_pick [1, 0, 2] rfl rfl) ?_
      apply h_endA (α := z1α) z3α
      · exact (.same (.same (.same (.same (.same (.same (.same (.same (.same (.same (.same (.same (.same .nil)))))))))))))
      · exact rfl
      · exact rfl
      · exact rfl
      · exact hB z3α (fun k => S k || Nat.beq k 12) true (or_i rfl)
    refine den_weak (H' := [.obj true blk0 off0 (.dat (T_tally_Tally_repo z1α)) ({ ({ t_0 with last := max t_0.last a_1 }) with was := z2.2 }), .vec z1α (T_deque_Cell_rep) z2.2.cells]) (sub_pick [0, 2] rfl rfl) ?_
    refine den_seq ?_
    refine den_seq ?_
    refine den_region rfl ?_
    refine o_move rfl rfl guard_none (look_tmp rfl) (fun _ => rfl) ?_
    refine o_end ?_
    refine den_cond (look_tmp rfl) ?_ ?_
    · refine den_open (fun z5 h_z5 => ?_)
      have hB : ∀ (z4α : Value) (S : Nat → Bool) (b7 : Bool), S 7 = b7 → (([(cond (S 7) (.obj true blk0 off0 (.dat (T_tally_Tally_repo z4α)) ({ ({ t_0 with last := max t_0.last a_1 }) with was := z5.2 })) (.obj true blk0 off0 (.dat (T_tally_Tally_repo z1α)) ({ ({ t_0 with last := max t_0.last a_1 }) with was := z2.2 }))), (cond (S 7) (.gone) (.vec z1α (T_deque_Cell_rep) z2.2.cells)), (cond (S 7) (.vec (z4α) (T_deque_Cell_rep) z5.2.cells) (.gone))] : List Go.Eng.Item)) = ([(cond b7 (.obj true blk0 off0 (.dat (T_tally_Tally_repo z4α)) ({ ({ t_0 with last := max t_0.last a_1 }) with was := z5.2 })) (.obj true blk0 off0 (.dat (T_tally_Tally_repo z1α)) ({ ({ t_0 with last := max t_0.last a_1 }) with was := z2.2 }))), (cond b7 (.gone) (.vec z1α (T_deque_Cell_rep) z2.2.cells)), (cond b7 (.vec (z4α) (T_deque_Cell_rep) z5.2.cells) (.gone))] : List Go.Eng.Item) := fun z4α S b7 h7 => by subst h7; rfl
      refine den_weak sub_gone ?_
      refine den_weak (sub_pick (H' := [.obj true blk0 off0 (.dat (T_tally_Tally_repo z1α)) ({ ({ t_0 with last := max t_0.last a_1 }) with was := z2.2 }), .vec z1α (T_deque_Cell_rep) z2.2.cells, .gone]) [1, 2, 0] rfl rfl) ?_
      refine den_drawA (A := Value) (H' := fun z4α => [.obj true blk0 off0 (.dat (T_tally_Tally_repo z4α)) ({ ({ t_0 with last := max t_0.last a_1 }) with was := z5.2 }), .gone, .vec (z4α) (T_deque_Cell_rep) z5.2.cells]) (fun z4α => [(39, ⟨Rep.addr, (blk0, off0), true⟩), (40, ⟨Rep.addr, (blk0, off0), true⟩), (41, ⟨Rep.addr, (blk0, off0 + 3), true⟩), (42, ⟨Rep.addr, (blk0, off0), true⟩), (43, ⟨Rep.addr, (blk0, off0), true⟩), (44, ⟨Rep.addr, (blk0, off0 + 1), true⟩), (45, ⟨Rep.int .i64, max t_0.last a_1, true⟩), (46, ⟨Rep.bool, z5.1, true⟩)]) (fun z4α S => [(cond (S 7) (.obj true blk0 off0 (.dat (T_tally_Tally_repo z4α)) ({ ({ t_0 with last := max t_0.last a_1 }) with was := z5.2 })) (.obj true blk0 off0 (.dat (T_tally_Tally_repo z1α)) ({ ({ t_0 with last := max t_0.last a_1 }) with was := z2.2 }))), (cond (S 7) (.gone) (.vec z1α (T_deque_Cell_rep) z2.2.cells)), (cond (S 7) (.vec (z4α) (T_deque_Cell_rep) z5.2.cells) (.gone))]) (.slice none 0 0) mixed (fun _ => rfl) rfl rfl (fun z4α S hS => hB z4α S true (hS 7 (by decide))) ⟨?_, ?_, ?_, ?_, ?_, ?_, ?_, ?_, trivial⟩ (fun z4α => ?_)
      · intro z4α S hc hk hp
        have e7 : S 7 = false := (not_yet (j := 7) (q := 0) hc (not_yet (j := 2) (q := 0) hc (not_yet (j := 1) (q := 0) hc hk rfl rfl rfl rfl) rfl rfl rfl rfl) rfl rfl rfl rfl)
        refine eq_H (H' := [.obj true blk0 off0 (.dat (T_tally_Tally_repo z1α)) ({ ({ t_0 with last := max t_0.last a_1 }) with was := z2.2 }), .vec z1α (T_deque_Cell_rep) z2.2.cells, .gone]) (by first | exact hB z4α S false e7 | (have q := hB z4α S false e7; simp only [cond_true, cond_false] at q; exact q)) ?_
        refine o_move rfl rfl guard_none (look_o rfl rfl) (fun _ => rfl) ?_
        apply h_endA (α := z4α) z4α
        · exact (.same (.same (.same (.same (.same (.same (.same (.same .nil))))))))
        · exact rfl
        · exact rfl
        · exact rfl
        · exact hB z4α (fun k => S k || Nat.beq k 0) false (or_f e7 rfl)
      · intro z4α S hc hk hp
        have e7 : S 7 = false := (not_yet (j := 7) (q := 0) hc (not_yet (j := 2) (q := 0) hc hk rfl rfl rfl rfl) rfl rfl rfl rfl)
        refine eq_H (H' := [.obj true blk0 off0 (.dat (T_tally_Tally_repo z1α)) ({ ({ t_0 with last := max t_0.last a_1 }) with was := z2.2 }), .vec z1α (T_deque_Cell_rep) z2.2.cells, .gone]) (by first | exact hB z4α S false e7 | (have q := hB z4α S false e7; simp only [cond_true, cond_false] at q; exact q)) ?_
        refine o_nilc rfl rfl guard_none (look_d rfl rfl (pr hp 0 rfl rfl)) (fun _ => rfl) ?_
        apply h_endA (α := z4α) z4α
        · exact (.same (.same (.same (.same (.same (.same (.same (.same .nil))))))))
        · exact rfl
        · exact rfl
        · exact rfl
        · exact hB z4α (fun k => S k || Nat.beq k 1) false (or_f e7 rfl)
      · intro z4α S hc hk hp
        have e7 : S 7 = false := (not_yet (j := 7) (q := 0) hc hk rfl rfl rfl rfl)
        refine eq_H (H' := [.obj true blk0 off0 (.dat (T_tally_Tally_repo z1α)) ({ ({ t_0 with last := max t_0.last a_1 }) with was := z2.2 }), .vec z1α (T_deque_Cell_rep) z2.2.cells, .gone]) (by first | exact hB z4α S false e7 | (have q := hB z4α S false e7; simp only [cond_true, cond_false] at q; exact q)) ?_
        refine o_faddr field53_3 type29 (by decide) rfl rfl guard_none (look_d rfl rfl (pr hp 0 rfl rfl)) (fun _ => rfl) ?_
        apply h_endA (α := z4α) z4α
        · exact (.same (.same (.same (.same (.same (.same (.same (.same .nil))))))))
        · exact rfl
        · exact rfl
        · exact rfl
        · exact hB z4α (fun k => S k || Nat.beq k 2) false (or_f e7 rfl)
      · intro z4α S hc hk hp
        have e7 : S 7 = false := (not_yet (j := 7) (q := 1) hc (not_yet (j := 6) (q := 0) hc (not_yet (j := 5) (q := 0) hc (not_yet (j := 4) (q := 0) hc hk rfl rfl rfl rfl) rfl rfl rfl rfl) rfl rfl rfl rfl) rfl rfl rfl rfl)
        refine eq_H (H' := [.obj true blk0 off0 (.dat (T_tally_Tally_repo z1α)) ({ ({ t_0 with last := max t_0.last a_1 }) with was := z2.2 }), .vec z1α (T_deque_Cell_rep) z2.2.cells, .gone]) (by first | exact hB z4α S false e7 | (have q := hB z4α S false e7; simp only [cond_true, cond_false] at q; exact q)) ?_
        refine o_move rfl rfl guard_none (look_o rfl rfl) (fun _ => rfl) ?_
        apply h_endA (α := z4α) z4α
        · exact (.same (.same (.same (.same (.same (.same (.same (.same .nil))))))))
        · exact rfl
        · exact rfl
        · exact rfl
        · exact hB z4α (fun k => S k || Nat.beq k 3) false (or_f e7 rfl)
      · intro z4α S hc hk hp
        have e7 : S 7 = false := (not_yet (j := 7) (q := 1) hc (not_yet (j := 6) (q := 0) hc (not_yet (j := 5) (q := 0) hc hk rfl rfl rfl rfl) rfl rfl rfl rfl) rfl rfl rfl rfl)
        refine eq_H (H' := [.obj true blk0 off0 (.dat (T_tally_Tally_repo z1α)) ({ ({ t_0 with last := max t_0.last a_1 }) with was := z2.2 }), .vec z1α (T_deque_Cell_rep) z2.2.cells, .gone]) (by first | exact hB z4α S false e7 | (have q := hB z4α S false e7; simp only [cond_true, cond_false] at q; exact q)) ?_
        refine o_nilc rfl rfl guard_none (look_d rfl rfl (pr hp 0 rfl rfl)) (fun _ => rfl) ?_
        apply h_endA (α := z4α) z4α
        · exact (.same (.same (.same (.same (.same (.same (.same (.same .nil))))))))
        · exact rfl
        · exact rfl
        · exact rfl
        · exact hB z4α (fun k => S k || Nat.beq k 4) false (or_f e7 rfl)
      · intro z4α S hc hk hp
        have e7 : S 7 = false := (not_yet (j := 7) (q := 1) hc (not_yet (j := 6) (q := 0) hc hk rfl rfl rfl rfl) rfl rfl rfl rfl)
        refine eq_H (H' := [.obj true blk0 off0 (.dat (T_tally_Tally_repo z1α)) ({ ({ t_0 with last := max t_0.last a_1 }) with was := z2.2 }), .vec z1α (T_deque_Cell_rep) z2.2.cells, .gone]) (by first | exact hB z4α S false e7 | (have q := hB z4α S false e7; simp only [cond_true, cond_false] at q; exact q)) ?_
        refine o_faddr field53_1 type2 (by decide) rfl rfl guard_none (look_d rfl rfl (pr hp 0 rfl rfl)) (fun _ => rfl) ?_
        apply h_endA (α := z4α) z4α
        · exact (.same (.same (.same (.same (.same (.same (.same (.same .nil))))))))
        · exact rfl
        · exact rfl
        · exact rfl
        · exact hB z4α (fun k => S k || Nat.beq k 5) false (or_f e7 rfl)
      · intro z4α S hc hk hp
        have e7 : S 7 = false := (not_yet (j := 7) (q := 1) hc hk rfl rfl rfl rfl)
        refine eq_H (H' := [.obj true blk0 off0 (.dat (T_tally_Tally_repo z1α)) ({ ({ t_0 with last := max t_0.last a_1 }) with was := z2.2 }), .vec z1α (T_deque_Cell_rep) z2.2.cells, .gone]) (by first | exact hB z4α S false e7 | (have q := hB z4α S false e7; simp only [cond_true, cond_false] at q; exact q)) ?_
        refine o_oloadi 0 rfl type2 (T_tally_Tally_foco1 z1α) rfl guard_none (look_d rfl rfl (pr hp 0 rfl rfl)) (fun _ => rfl) ?_
        apply h_endA (α := z4α) z4α
        · exact (.same (.same (.same (.same (.same (.same (.same (.same .nil))))))))
        · exact rfl
        · exact rfl
        · exact rfl
        · exact hB z4α (fun k => S k || Nat.beq k 6) false (or_f e7 rfl)
      · intro z4α S hc hk hp
        refine eq_H (H' := [.obj true blk0 off0 (.dat (T_tally_Tally_repo z1α)) ({ ({ t_0 with last := max t_0.last a_1 }) with was := z2.2 }), .vec z1α (T_deque_Cell_rep) z2.2.cells, .gone]) (by first | exact hB z4α S false hk | (have q := hB z4α S false hk; simp only [cond_true, cond_false] at q; exact q)) ?_
        refine o_from (bind_eqO h_z5) ?_
        refine o_weak (sub_part (R' := (T_tally_Tally_repo z1α)) (S' := (T_deque_Deque_repo z1α)) (T_tally_Tally_focw3 z1α z1α) rfl) ?_
        refine o_weak (H' := [.obj true blk0 (off0 + 3) (.dat (T_deque_Deque_repo z1α)) z2.2, .hole true blk0 off0 3 ((T_deque_Deque_repo z1α)).size (T_tally_Tally_repo z1α) ({ ({ t_0 with last := max t_0.last a_1 }) with was := z2.2 }), .vec z1α (T_deque_Cell_rep) z2.2.cells, .gone]) (sub_pick [0, 1, 2, 3] rfl rfl) ?_
        refine o_weak (H' := [.vec z1α (T_deque_Cell_rep) z2.2.cells, .obj true blk0 (off0 + 3) (.dat (T_deque_Deque_repo z1α)) z2.2] ++ ([] ++ [.hole true blk0 off0 3 ((T_deque_Deque_repo z1α)).size (T_tally_Tally_repo z1α) ({ ({ t_0 with last := max t_0.last a_1 }) with was := z2.2 }), .gone])) (sub_pick [2, 0, 1, 3] rfl rfl) ?_
        refine o_callU rfl rfl rfl rfl rfl callable18 (looks_cons (look_d rfl rfl (pr hp 0 rfl rfl)) (fun _ => rfl) (looks_cons (look_d rfl rfl (pr hp 1 rfl rfl)) (fun _ => rfl) (looks_nil))) .nil (deque_Deque_Push_ok _ _ _ z2.2 (max t_0.last a_1)) (fun _ _ => (wr_v (wr_c wr_n))) (fun z6α => o_eqOH ?_)
        refine o_weak (H' := [.vec z6α (T_deque_Cell_rep) z5.2.cells, .obj true blk0 (off0 + 3) (.dat (T_deque_Deque_repo z6α)) z5.2, .hole true blk0 off0 3 ((T_deque_Deque_repo z1α)).size (T_tally_Tally_repo z1α) ({ ({ t_0 with last := max t_0.last a_1 }) with was := z2.2 }), .gone]) (sub_pick [0, 1, 2, 3] rfl rfl) ?_
        refine o_weak (H' := [.obj true blk0 (off0 + 3) (.dat (T_deque_Deque_repo z6α)) z5.2, .hole true blk0 off0 3 ((T_deque_Deque_repo z1α)).size (T_tally_Tally_repo z1α) ({ ({ t_0 with last := max t_0.last a_1 }) with was := z2.2 }), .vec z6α (T_deque_Cell_rep) z5.2.cells, .gone]) (sub_pick [1, 2, 0, 3] rfl rfl) ?_
        refine o_weak (sub_whole (T_tally_Tally_focw3 z1α z6α)) ?_
        refine o_weak (H' := [.obj true blk0 off0 (.dat (T_tally_Tally_repo z6α)) ({ ({ t_0 with last := max t_0.last a_1 }) with was := z5.2 }), .vec z6α (T_deque_Cell_rep) z5.2.cells, .gone]) (sub_pick [0, 1, 2] rfl rfl) ?_
        refine o_weak sub_gone ?_
        refine o_weak (H' := [.obj true blk0 off0 (.dat (T_tally_Tally_repo z6α)) ({ ({ t_0 with last := max t_0.last a_1 }) with was := z5.2 }), .gone, .vec z6α (T_deque_Cell_rep) z5.2.cells]) (sub_pick [1, 0, 2] rfl rfl) ?_
        apply h_endA (α := z4α) z6α
        · exact (.same (.same (.same (.same (.same (.same (.same (.same .nil))))))))
        · exact rfl
        · exact rfl
        · exact rfl
        · exact hB z6α (fun k => S k || Nat.beq k 7) true (or_i rfl)
      refine den_weak (H' := [.obj true blk0 off0 (.dat (T_tally_Tally_repo z4α)) ({ ({ t_0 with last := max t_0.last a_1 }) with was := z5.2 }), .vec z4α (T_deque_Cell_rep) z5.2.cells]) (sub_pick [0, 2] rfl rfl) ?_
      refine den_seq ?_
      refine den_region rfl ?_
      refine o_move rfl rfl guard_none (look_tmp rfl) (fun _ => rfl) ?_
      refine o_nilc rfl rfl guard_none (look_tmp rfl) (fun _ => rfl) ?_
      refine o_faddr field53_3 type29 (by decide) rfl rfl guard_none (look_tmp rfl) (fun _ => rfl) ?_
      refine o_weak (sub_part (R' := (T_tally_Tally_repo z4α)) (S' := (T_deque_Deque_repo z4α)) (T_tally_Tally_focw3 z4α z4α) rfl) ?_
      refine o_weak (H' := [.obj true blk0 (off0 + 3) (.dat (T_deque_Deque_repo z4α)) z5.2, .hole true blk0 off0 3 ((T_deque_Deque_repo z4α)).size (T_tally_Tally_repo z4α) ({ ({ t_0 with last := max t_0.last a_1 }) with was := z5.2 }), .vec z4α (T_deque_Cell_rep) z5.2.cells]) (sub_pick [0, 1, 2] rfl rfl) ?_
      refine o_weak (H' := [] ++ ([.vec z4α (T_deque_Cell_rep) z5.2.cells, .obj true blk0 (off0 + 3) (.dat (T_deque_Deque_repo z4α)) z5.2] ++ [.hole true blk0 off0 3 ((T_deque_Deque_repo z4α)).size (T_tally_Tally_repo z4α) ({ ({ t_0 with last := max t_0.last a_1 }) with was := z5.2 })])) (sub_pick [2, 0, 1] rfl rfl) ?_
      refine o_callU rfl rfl rfl rfl rfl callable45 (looks_cons (look_tmp rfl) (fun _ => rfl) (looks_nil)) (.vec (.cons .nil)) (deque_Deque_Sum_ok _ _ _ z5.2) (fun _ _ => wr_n) (fun z8α z7 => ?_)
      refine o_weak (H' := [.vec z4α (T_deque_Cell_rep) z5.2.cells, .obj true blk0 (off0 + 3) (.dat (T_deque_Deque_repo z4α)) z5.2, .hole true blk0 off0 3 ((T_deque_Deque_repo z4α)).size (T_tally_Tally_repo z4α) ({ ({ t_0 with last := max t_0.last a_1 }) with was := z5.2 })]) (sub_pick [0, 1, 2] rfl rfl) ?_
      refine o_weak (H' := [.obj true blk0 (off0 + 3) (.dat (T_deque_Deque_repo z4α)) z5.2, .hole true blk0 off0 3 ((T_deque_Deque_repo z4α)).size (T_tally_Tally_repo z4α) ({ ({ t_0 with last := max t_0.last a_1 }) with was := z5.2 }), .vec z4α (T_deque_Cell_rep) z5.2.cells]) (sub_pick [1, 2, 0] rfl rfl) ?_
      refine o_weak (sub_whole (T_tally_Tally_focw3 z4α z4α)) ?_
      refine o_weak (H' := [.obj true blk0 off0 (.dat (T_tally_Tally_repo z4α)) ({ ({ t_0 with last := max t_0.last a_1 }) with was := z5.2 }), .vec z4α (T_deque_Cell_rep) z5.2.cells]) (sub_pick [0, 1] rfl rfl) ?_
      refine o_assign rfl rfl guard_none (look_tmp rfl) (fun _ => rfl) ?_
      refine o_end ?_
      refine den_code_ret ?_
      exact dene_resI z4α (res1 rfl (rv_tmp rfl)) (fun _ _ _ k => ato_pick [1, 0] rfl rfl k)
    · refine den_skip ?_
      refine den_seq ?_
      refine den_region rfl ?_
      refine o_move rfl rfl guard_none (look_tmp rfl) (fun _ => rfl) ?_
      refine o_nilc rfl rfl guard_none (look_tmp rfl) (fun _ => rfl) ?_
      refine o_faddr field53_3 type29 (by decide) rfl rfl guard_none (look_tmp rfl) (fun _ => rfl) ?_
      refine o_weak (sub_part (R' := (T_tally_Tally_repo z1α)) (S' := (T_deque_Deque_repo z1α)) (T_tally_Tally_focw3 z1α z1α) rfl) ?_
      refine o_weak (H' := [.obj true blk0 (off0 + 3) (.dat (T_deque_Deque_repo z1α)) z2.2, .hole true blk0 off0 3 ((T_deque_Deque_repo z1α)).size (T_tally_Tally_repo z1α) ({ ({ t_0 with last := max t_0.last a_1 }) with was := z2.2 }), .vec z1α (T_deque_Cell_rep) z2.2.cells]) (sub_pick [0, 1, 2] rfl rfl) ?_
      refine o_weak (H' := [] ++ ([.vec z1α (T_deque_Cell_rep) z2.2.cells, .obj true blk0 (off0 + 3) (.dat (T_deque_Deque_repo z1α)) z2.2] ++ [.hole true blk0 off0 3 ((T_deque_Deque_repo z1α)).size (T_tally_Tally_repo z1α) ({ ({ t_0 with last := max t_0.last a_1 }) with was := z2.2 })])) (sub_pick [2, 0, 1] rfl rfl) ?_
      refine o_callU rfl rfl rfl rfl rfl callable45 (looks_cons (look_tmp rfl) (fun _ => rfl) (looks_nil)) (.vec (.cons .nil)) (deque_Deque_Sum_ok _ _ _ z2.2) (fun _ _ => wr_n) (fun z10α z9 => ?_)
      refine o_weak (H' := [.vec z1α (T_deque_Cell_rep) z2.2.cells, .obj true blk0 (off0 + 3) (.dat (T_deque_Deque_repo z1α)) z2.2, .hole true blk0 off0 3 ((T_deque_Deque_repo z1α)).size (T_tally_Tally_repo z1α) ({ ({ t_0 with last := max t_0.last a_1 }) with was := z2.2 })]) (sub_pick [0, 1, 2] rfl rfl) ?_
      refine o_weak (H' := [.obj true blk0 (off0 + 3) (.dat (T_deque_Deque_repo z1α)) z2.2, .hole true blk0 off0 3 ((T_deque_Deque_repo z1α)).size (T_tally_Tally_repo z1α) ({ ({ t_0 with last := max t_0.last a_1 }) with was := z2.2 }), .vec z1α (T_deque_Cell_rep) z2.2.cells]) (sub_pick [1, 2, 0] rfl rfl) ?_
      refine o_weak (sub_whole (T_tally_Tally_focw3 z1α z1α)) ?_
      refine o_weak (H' := [.obj true blk0 off0 (.dat (T_tally_Tally_repo z1α)) ({ ({ t_0 with last := max t_0.last a_1 }) with was := z2.2 }), .vec z1α (T_deque_Cell_rep) z2.2.cells]) (sub_pick [0, 1] rfl rfl) ?_
      refine o_assign rfl rfl guard_none (look_tmp rfl) (fun _ => rfl) ?_
      refine o_end ?_
      refine den_code_ret ?_
      exact dene_resI z1α (res1 rfl (rv_tmp rfl)) (fun _ _ _ k => ato_pick [1, 0] rfl rfl k)

theorem tally_Tally_Cells_ok (blk0 : Nat) (off0 : Nat) (val0_0 : Value) (t_0 : T_tally_Tally) : FunOkI Try.prog 24 [⟨.addr, (blk0, off0), true⟩] [.rvec val0_0 (T_deque_Cell_rep) t_0.was.cells, .obj false blk0 off0 (.dat (T_tally_Tally_repo val0_0)) t_0] (tally_Tally_Cells t_0) (Rep.int .i64) (fun (α : Unit) (y : Int) => y) (fun α y => []) := by
  refine fun_okI Try.func24 rfl Try.ntmps24 rfl (all_cons rfl all_nil) (fun w0 ok0 M => ?_)
  refine den_seq ?_
  refine den_region rfl ?_
  refine o_assign rfl rfl guard_none (look_int rfl) (fun _ => rfl) ?_
  refine o_end ?_
  refine den_seq ?_
  refine den_seq ?_
  refine den_region rfl ?_
  refine o_move rfl rfl guard_none (look_tmp rfl) (fun _ => rfl) ?_
  refine o_peql Try.underlying39 rfl rfl guard_none (look_tmp rfl) (fun _ => rfl) ?_
  refine o_end ?_
  refine den_condf (look_tmp rfl) ?_
  refine den_skip ?_
  refine den_seq ?_
  refine den_region rfl ?_
  refine o_move rfl rfl guard_none (look_tmp rfl) (fun _ => rfl) ?_
  refine o_nilc rfl rfl guard_none (look_tmp rfl) (fun _ => rfl) ?_
  refine o_faddr field53_3 type29 (by decide) rfl rfl guard_none (look_tmp rfl) (fun _ => rfl) ?_
  refine o_weak (H' := [.obj false blk0 off0 (.dat (T_tally_Tally_repo val0_0)) t_0, .rvec val0_0 (T_deque_Cell_rep) t_0.was.cells]) (sub_pick [1, 0] rfl rfl) ?_
  refine o_weak (sub_part (R' := (T_tally_Tally_repo val0_0)) (S' := (T_deque_Deque_repo val0_0)) (T_tally_Tally_focw3 val0_0 val0_0) rfl) ?_
  refine o_weak (H' := [.obj false blk0 (off0 + 3) (.dat (T_deque_Deque_repo val0_0)) t_0.was, .hole false blk0 off0 3 ((T_deque_Deque_repo val0_0)).size (T_tally_Tally_repo val0_0) t_0, .rvec val0_0 (T_deque_Cell_rep) t_0.was.cells]) (sub_pick [0, 1, 2] rfl rfl) ?_
  refine o_weak (H' := [] ++ ([.rvec val0_0 (T_deque_Cell_rep) t_0.was.cells, .obj false blk0 (off0 + 3) (.dat (T_deque_Deque_repo val0_0)) t_0.was] ++ [.hole false blk0 off0 3 ((T_deque_Deque_repo val0_0)).size (T_tally_Tally_repo val0_0) t_0])) (sub_pick [2, 0, 1] rfl rfl) ?_
  refine o_callU rfl rfl rfl rfl rfl callable44 (looks_cons (look_tmp rfl) (fun _ => rfl) (looks_nil)) (.rvec (.cons .nil)) (deque_Deque_Len_ok _ _ _ t_0.was) (fun _ _ => wr_n) (fun z2α z1 => ?_)
  refine o_weak (H' := [.rvec val0_0 (T_deque_Cell_rep) t_0.was.cells, .obj false blk0 (off0 + 3) (.dat (T_deque_Deque_repo val0_0)) t_0.was, .hole false blk0 off0 3 ((T_deque_Deque_repo val0_0)).size (T_tally_Tally_repo val0_0) t_0]) (sub_pick [0, 1, 2] rfl rfl) ?_
  refine o_weak (H' := [.obj false blk0 (off0 + 3) (.dat (T_deque_Deque_repo val0_0)) t_0.was, .hole false blk0 off0 3 ((T_deque_Deque_repo val0_0)).size (T_tally_Tally_repo val0_0) t_0, .rvec val0_0 (T_deque_Cell_rep) t_0.was.cells]) (sub_pick [1, 2, 0] rfl rfl) ?_
  refine o_weak (sub_whole (T_tally_Tally_focw3 val0_0 val0_0)) ?_
  refine o_weak (H' := [.obj false blk0 off0 (.dat (T_tally_Tally_repo val0_0)) t_0, .rvec val0_0 (T_deque_Cell_rep) t_0.was.cells]) (sub_pick [0, 1] rfl rfl) ?_
  refine o_assign rfl rfl guard_none (look_tmp rfl) (fun _ => rfl) ?_
  refine o_end ?_
  refine den_code_ret ?_
  exact dene_resI () (res1 rfl (rv_tmp rfl)) (fun _ _ _ k => ato_pick [] rfl rfl k)

theorem law17_alive_ok   : FunOk Try.prog 21 [] (law17_alive) (Rep.bool) := by
  refine fun_ok Try.func21 rfl Try.ntmps21 rfl all_nil (fun w0 ok0 => ?_)
  refine den_seq ?_
  refine den_region rfl ?_
  refine o_assign rfl rfl guard_none look_bool (fun _ => rfl) ?_
  refine o_end ?_
  refine den_seq ?_
  refine den_region rfl ?_
  refine o_weak (H' := [] ++ ([] ++ [])) (sub_pick [] rfl rfl) ?_
  refine o_callU rfl rfl rfl rfl rfl callable22 (looks_cons (look_int rfl) (fun _ => rfl) (looks_nil)) .nil (tally_New_ok 5) (fun _ _ => (wr_v (wr_c wr_n))) (fun z2α z1 => ?_)
  obtain ⟨⟨z3, z4⟩, z5⟩ := z2α
  refine o_weak (H' := [.vec z5 (T_deque_Cell_rep) z1.was.cells, .obj true z3 z4 (.dat (T_tally_Tally_repo z5)) z1]) (sub_pick [0, 1] rfl rfl) ?_
  refine o_assign rfl rfl guard_none (look_tmp rfl) (fun _ => rfl) ?_
  refine o_end ?_
  refine den_seq ?_
  refine den_region rfl ?_
  refine o_move rfl rfl guard_none (look_tmp rfl) (fun _ => rfl) ?_
  refine o_weak (H' := [.vec z5 (T_deque_Cell_rep) z1.was.cells, .obj true z3 z4 (.dat (T_tally_Tally_repo z5)) z1] ++ ([] ++ [])) (sub_pick [0, 1] rfl rfl) ?_
  refine o_callU rfl rfl rfl rfl rfl callable23 (looks_cons (look_tmp rfl) (fun _ => rfl) (looks_cons (look_int rfl) (fun _ => rfl) (looks_cons look_bool (fun _ => rfl) (looks_nil)))) .nil (tally_Tally_Step_ok _ _ _ z1 0 true) (fun _ _ => (wr_v (wr_c wr_n))) (fun z7α z6 => ?_)
  refine o_weak (H' := [.vec z7α (T_deque_Cell_rep) z6.2.was.cells, .obj true z3 z4 (.dat (T_tally_Tally_repo z7α)) z6.2]) (sub_pick [0, 1] rfl rfl) ?_
  refine o_eql rfl rfl guard_none (look_tmp rfl) (look_int rfl) (fun _ => rfl) (fun _ => rfl) ?_
  refine o_move rfl rfl guard_none (look_tmp rfl) (fun _ => rfl) ?_
  refine o_move rfl rfl (guard_some rfl rfl rfl) (look_tmp rfl) (fun _ => rfl) ?_
  refine o_weak (H' := [.vec z7α (T_deque_Cell_rep) z6.2.was.cells, .obj true z3 z4 (.dat (T_tally_Tally_repo z7α)) z6.2] ++ ([] ++ [])) (sub_pick [0, 1] rfl rfl) ?_
  refine o_callX (0, z6.2) z7α rfl rfl rfl rfl (guard_some rfl rfl rfl) callable23 (looks_cons (look_tmp rfl) (fun h => h) (looks_cons (look_int rfl) (fun _ => rfl) (looks_cons look_bool (fun _ => rfl) (looks_nil)))) .nil (tally_Tally_Step_ok _ _ _ z6.2 5 true) (fun _ _ => (wr_v (wr_c wr_n))) (fun _ => rfl) (fun z10α z9 => ?_)
  refine o_weak (H' := [.vec z10α (T_deque_Cell_rep) z9.2.was.cells, .obj true z3 z4 (.dat (T_tally_Tally_repo z10α)) z9.2]) (sub_pick [0, 1] rfl rfl) ?_
  refine o_eql rfl rfl (guard_some rfl rfl rfl) (look_tmp rfl) (look_int rfl) (fun h => h) (fun _ => rfl) ?_
  refine o_pick rfl rfl guard_none (look_tmp rfl) (look_tmp rfl) look_bool (fun _ => rfl) (fun h1 h2 => pick_t ((fun _ => rfl) h1) h2) (fun _ _ => rfl) ?_
  refine o_move rfl rfl guard_none (look_tmp rfl) (fun _ => rfl) ?_
  refine o_move rfl rfl (guard_some rfl rfl rfl) (look_tmp rfl) (fun _ => rfl) ?_
  refine o_weak (H' := [.vec z10α (T_deque_Cell_rep) z9.2.was.cells, .obj true z3 z4 (.dat (T_tally_Tally_repo z10α)) z9.2] ++ ([] ++ [])) (sub_pick [0, 1] rfl rfl) ?_
  refine o_callX (0, z9.2) z10α rfl rfl rfl rfl (guard_some rfl rfl rfl) callable23 (looks_cons (look_tmp rfl) (fun h => h) (looks_cons (look_int rfl) (fun _ => rfl) (looks_cons look_bool (fun _ => rfl) (looks_nil)))) .nil (tally_Tally_Step_ok _ _ _ z9.2 6 true) (fun _ _ => (wr_v (wr_c wr_n))) (fun _ => rfl) (fun z13α z12 => ?_)
  refine o_weak (H' := [.vec z13α (T_deque_Cell_rep) z12.2.was.cells, .obj true z3 z4 (.dat (T_tally_Tally_repo z13α)) z12.2]) (sub_pick [0, 1] rfl rfl) ?_
  refine o_eql rfl rfl (guard_some rfl rfl rfl) (look_tmp rfl) (look_int rfl) (fun h => h) (fun _ => rfl) ?_
  refine o_pick rfl rfl guard_none (look_tmp rfl) (look_tmp rfl) look_bool (fun _ => rfl) (fun h1 h2 => pick_t ((fun _ => rfl) h1) h2) (fun _ _ => rfl) ?_
  refine o_move rfl rfl guard_none (look_tmp rfl) (fun _ => rfl) ?_
  refine o_move rfl rfl (guard_some rfl rfl rfl) (look_tmp rfl) (fun _ => rfl) ?_
  refine o_weak (H' := [] ++ ([.vec z13α (T_deque_Cell_rep) z12.2.was.cells, .obj true z3 z4 (.dat (T_tally_Tally_repo z13α)) z12.2] ++ [])) (sub_pick [0, 1] rfl rfl) ?_
  refine o_callX 0 () rfl rfl rfl rfl (guard_some rfl rfl rfl) callable24 (looks_cons (look_tmp rfl) (fun h => h) (looks_nil)) (.vec (.cons .nil)) (tally_Tally_Cells_ok _ _ _ z12.2) (fun _ _ => wr_n) (fun _ => rfl) (fun z16α z15 => ?_)
  refine o_weak (H' := [.vec z13α (T_deque_Cell_rep) z12.2.was.cells, .obj true z3 z4 (.dat (T_tally_Tally_repo z13α)) z12.2]) (sub_pick [0, 1] rfl rfl) ?_
  refine o_eql rfl rfl (guard_some rfl rfl rfl) (look_tmp rfl) (look_int rfl) (fun h => h) (fun _ => rfl) ?_
  refine o_pick rfl rfl guard_none (look_tmp rfl) (look_tmp rfl) look_bool (fun _ => rfl) (fun h1 h2 => pick_t ((fun _ => rfl) h1) h2) (fun _ _ => rfl) ?_
  refine o_assign rfl rfl guard_none (look_tmp rfl) (fun _ => rfl) ?_
  refine o_lt (fun z17 => ?_)
  refine o_end ?_
  refine den_code_ret ?_
  exact dene_res (res1 rfl (rv_tmp rfl))

theorem law17_TallyMost_ok  (n_0 : Int) (a_1 : Int) : FunOk Try.prog 6 [⟨Rep.int .i64, n_0, true⟩, ⟨Rep.int .i64, a_1, true⟩] (law17_TallyMost n_0 a_1) (Rep.bool) := by
  refine fun_ok Try.func6 rfl Try.ntmps6 rfl (all_cons rfl (all_cons rfl all_nil)) (fun w0 ok0 => ?_)
  refine den_seq ?_
  refine den_region rfl ?_
  refine o_assign rfl rfl guard_none look_bool (fun _ => rfl) ?_
  refine o_end ?_
  refine den_seq ?_
  refine den_seq ?_
  refine den_region rfl ?_
  refine o_call rfl rfl rfl callable21 (looks_nil) (law17_alive_ok) (fun z1 => ?_)
  refine o_not rfl rfl guard_none (look_tmp rfl) (fun _ => rfl) ?_
  refine o_end ?_
  refine den_cond (look_tmp rfl) ?_ ?_
  · refine den_seq ?_
    refine den_region rfl ?_
    refine o_assign rfl rfl guard_none look_bool (fun _ => rfl) ?_
    refine o_end ?_
    refine den_code_ret ?_
    refine dene_ret ?_
    exact dene_res (res1 rfl (rv_tmp rfl))
  · refine den_skip ?_
    refine den_seq ?_
    refine den_region rfl ?_
    refine o_move rfl rfl guard_none (look_tmp rfl) (fun _ => rfl) ?_
    refine o_max2 rfl rfl guard_none (look_tmp rfl) (look_int rfl) (fun _ => rfl) (fun _ => rfl) ?_
    refine o_min2 rfl rfl guard_none (look_tmp rfl) (look_int rfl) (fun _ => rfl) (fun _ => rfl) ?_
    refine o_move rfl rfl guard_none (look_tmp rfl) (fun _ => rfl) ?_
    refine o_max2 rfl rfl guard_none (look_tmp rfl) (look_int rfl) (fun _ => rfl) (fun _ => rfl) ?_
    refine o_assign rfl rfl guard_none (look_tmp rfl) (fun _ => rfl) ?_
    refine o_assign rfl rfl guard_none (look_tmp rfl) (fun _ => rfl) ?_
    refine o_end ?_
    refine den_seq ?_
    refine den_region rfl ?_
    refine o_weak (H' := [] ++ ([] ++ [])) (sub_pick [] rfl rfl) ?_
    refine o_callU rfl rfl rfl rfl rfl callable22 (looks_cons (look_int rfl) (fun _ => rfl) (looks_nil)) .nil (tally_New_ok 9) (fun _ _ => (wr_v (wr_c wr_n))) (fun z3α z2 => ?_)
    obtain ⟨⟨z4, z5⟩, z6⟩ := z3α
    refine o_weak (H' := [.vec z6 (T_deque_Cell_rep) z2.was.cells, .obj true z4 z5 (.dat (T_tally_Tally_repo z6)) z2]) (sub_pick [0, 1] rfl rfl) ?_
    refine o_assign rfl rfl guard_none (look_tmp rfl) (fun _ => rfl) ?_
    refine o_end ?_
    refine den_seq ?_
    refine den_seq ?_
    refine den_region rfl ?_
    refine o_assign rfl rfl guard_none (look_int rfl) (fun _ => rfl) ?_
    refine o_end ?_
    refine den_bothA (A := Value) (fun z7α z7 => [(0, ⟨Rep.int .i64, min (max n_0 1) 33000, true⟩), (1, ⟨Rep.int .i64, max a_1 0, true⟩), (5, ⟨Rep.addr, (z4, z5), true⟩)]) (fun z7α z7 => [.vec z7α (T_deque_Cell_rep) z7.was.cells, .obj true z4 z5 (.dat (T_tally_Tally_repo z7α)) z7]) ?_ (fun z7α z7 => ?_)
    · refine den_block ?_
      refine den_loopA (A := Value) (law17_TallyMost_L1b n_0 a_1) (fun z16α z16 => [(6, ⟨Rep.int .i64, z16.1, true⟩), (0, ⟨Rep.int .i64, min (max n_0 1) 33000, true⟩), (1, ⟨Rep.int .i64, max a_1 0, true⟩), (5, ⟨Rep.addr, (z4, z5), true⟩)]) (fun z16α z16 => [.vec z16α (T_deque_Cell_rep) z16.2.was.cells, .obj true z4 z5 (.dat (T_tally_Tally_repo z16α)) z16.2]) (0, z2) z6 (fun z16α z16 => ?_) ((sub_env (sube_cons rfl (sube_cons rfl (sube_cons rfl (sube_cons rfl (sube_nil)))))))
      refine den_seq ?_
      refine den_seq ?_
      refine den_region rfl ?_
      refine o_move rfl rfl guard_none (look_tmp rfl) (fun _ => rfl) ?_
      refine o_move rfl rfl guard_none (look_tmp rfl) (fun _ => rfl) ?_
      refine o_lss rfl rfl guard_none (look_tmp rfl) (look_tmp rfl) (fun _ => rfl) (fun _ => rfl) ?_
      refine o_end ?_
      refine den_cond (look_tmp rfl) ?_ ?_
      · refine den_skip ?_
        refine den_seq ?_
        refine den_block ?_
        refine den_seq ?_
        refine den_region rfl ?_
        refine o_move rfl rfl guard_none (look_tmp rfl) (fun _ => rfl) ?_
        refine o_move rfl rfl guard_none (look_tmp rfl) (fun _ => rfl) ?_
        refine o_weak (H' := [.vec z16α (T_deque_Cell_rep) z16.2.was.cells, .obj true z4 z5 (.dat (T_tally_Tally_repo z16α)) z16.2] ++ ([] ++ [])) (sub_pick [0, 1] rfl rfl) ?_
        refine o_callU rfl rfl rfl rfl rfl callable23 (looks_cons (look_tmp rfl) (fun _ => rfl) (looks_cons (look_tmp rfl) (fun _ => rfl) (looks_cons look_bool (fun _ => rfl) (looks_nil)))) .nil (tally_Tally_Step_ok _ _ _ z16.2 (max a_1 0) true) (fun _ _ => (wr_v (wr_c wr_n))) (fun z18α z17 => ?_)
        refine o_weak (H' := [.vec z18α (T_deque_Cell_rep) z17.2.was.cells, .obj true z4 z5 (.dat (T_tally_Tally_repo z18α)) z17.2]) (sub_pick [0, 1] rfl rfl) ?_
        refine o_move rfl rfl guard_none (look_tmp rfl) (fun _ => rfl) ?_
        refine o_add rfl rfl guard_none (look_tmp rfl) (look_int rfl) (fun _ => rfl) (fun _ => rfl) ?_
        refine o_min2 rfl rfl guard_none (look_tmp rfl) (look_int rfl) (fun _ => rfl) (fun _ => rfl) ?_
        refine o_neq rfl rfl guard_none (look_tmp rfl) (look_tmp rfl) (fun _ => rfl) (fun _ => rfl) ?_
        refine o_end ?_
        refine den_cond (look_tmp rfl) ?_ ?_
        · refine den_seq ?_
          refine den_region rfl ?_
          refine o_assign rfl rfl guard_none look_bool (fun _ => rfl) ?_
          refine o_end ?_
          refine den_code_ret ?_
          refine dene_ret ?_
          refine dene_loopA (by simp) ?_
          refine dene_ret ?_
          refine dene_bothA (by simp) ?_
          refine dene_ret ?_
          exact dene_res (res1 rfl (rv_tmp rfl))
        · refine den_skip ?_
          refine den_blkend ?_
          refine den_region rfl ?_
          refine o_move rfl rfl guard_none (look_tmp rfl) (fun _ => rfl) ?_
          refine o_add rfl rfl guard_none (look_tmp rfl) (look_int rfl) (fun _ => rfl) (fun _ => rfl) ?_
          refine o_assign rfl rfl guard_none (look_tmp rfl) (fun _ => rfl) ?_
          refine o_end ?_
          refine den_nextA z18α ((sub_env (sube_cons rfl (sube_cons rfl (sube_cons rfl (sube_cons rfl (sube_nil)))))))
      · refine den_code_exit ?_
        refine dene_out rfl ?_
        refine dene_loopA (by simp) ?_
        refine dene_to rfl ?_
        refine den_endlA z16α ((sub_env (sube_cons rfl (sube_cons rfl (sube_cons rfl (sube_nil))))))
    refine den_seq ?_
    refine den_seq ?_
    refine den_region rfl ?_
    refine o_move rfl rfl guard_none (look_tmp rfl) (fun _ => rfl) ?_
    refine o_eql rfl rfl guard_none (look_tmp rfl) (look_int rfl) (fun _ => rfl) (fun _ => rfl) ?_
    refine o_end ?_
    refine den_cond (look_tmp rfl) ?_ ?_
    · refine den_seq ?_
      refine den_region rfl ?_
      refine o_move rfl rfl guard_none (look_tmp rfl) (fun _ => rfl) ?_
      refine o_weak (H' := [] ++ ([.vec z7α (T_deque_Cell_rep) z7.was.cells, .obj true z4 z5 (.dat (T_tally_Tally_repo z7α)) z7] ++ [])) (sub_pick [0, 1] rfl rfl) ?_
      refine o_callU rfl rfl rfl rfl rfl callable24 (looks_cons (look_tmp rfl) (fun _ => rfl) (looks_nil)) (.vec (.cons .nil)) (tally_Tally_Cells_ok _ _ _ z7) (fun _ _ => wr_n) (fun z9α z8 => ?_)
      refine o_weak (H' := [.vec z7α (T_deque_Cell_rep) z7.was.cells, .obj true z4 z5 (.dat (T_tally_Tally_repo z7α)) z7]) (sub_pick [0, 1] rfl rfl) ?_
      refine o_eql rfl rfl guard_none (look_tmp rfl) (look_int rfl) (fun _ => rfl) (fun _ => rfl) ?_
      refine o_assign rfl rfl guard_none (look_tmp rfl) (fun _ => rfl) ?_
      refine o_end ?_
      refine den_code_ret ?_
      refine dene_ret ?_
      exact dene_res (res1 rfl (rv_tmp rfl))
    · refine den_skip ?_
      refine den_seq ?_
      refine den_region rfl ?_
      refine o_move rfl rfl guard_none (look_tmp rfl) (fun _ => rfl) ?_
      refine o_move rfl rfl guard_none (look_tmp rfl) (fun _ => rfl) ?_
      refine o_add rfl rfl guard_none (look_tmp rfl) (look_int rfl) (fun _ => rfl) (fun _ => rfl) ?_
      refine o_weak (H' := [.vec z7α (T_deque_Cell_rep) z7.was.cells, .obj true z4 z5 (.dat (T_tally_Tally_repo z7α)) z7] ++ ([] ++ [])) (sub_pick [0, 1] rfl rfl) ?_
      refine o_callU rfl rfl rfl rfl rfl callable23 (looks_cons (look_tmp rfl) (fun _ => rfl) (looks_cons (look_tmp rfl) (fun _ => rfl) (looks_cons look_bool (fun _ => rfl) (looks_nil)))) .nil (tally_Tally_Step_ok _ _ _ z7 (IntKind.i64.wrap ((max a_1 0) + 1)) true) (fun _ _ => (wr_v (wr_c wr_n))) (fun z11α z10 => ?_)
      refine o_weak (H' := [.vec z11α (T_deque_Cell_rep) z10.2.was.cells, .obj true z4 z5 (.dat (T_tally_Tally_repo z11α)) z10.2]) (sub_pick [0, 1] rfl rfl) ?_
      refine o_move rfl rfl guard_none (look_tmp rfl) (fun _ => rfl) ?_
      refine o_min2 rfl rfl guard_none (look_tmp rfl) (look_int rfl) (fun _ => rfl) (fun _ => rfl) ?_
      refine o_add rfl rfl guard_none (look_tmp rfl) (look_int rfl) (fun _ => rfl) (fun _ => rfl) ?_
      refine o_eql rfl rfl guard_none (look_tmp rfl) (look_tmp rfl) (fun _ => rfl) (fun _ => rfl) ?_
      refine o_move rfl rfl guard_none (look_tmp rfl) (fun _ => rfl) ?_
      refine o_move rfl rfl (guard_some rfl rfl rfl) (look_tmp rfl) (fun _ => rfl) ?_
      refine o_weak (H' := [] ++ ([.vec z11α (T_deque_Cell_rep) z10.2.was.cells, .obj true z4 z5 (.dat (T_tally_Tally_repo z11α)) z10.2] ++ [])) (sub_pick [0, 1] rfl rfl) ?_
      refine o_callX 0 () rfl rfl rfl rfl (guard_some rfl rfl rfl) callable24 (looks_cons (look_tmp rfl) (fun h => h) (looks_nil)) (.vec (.cons .nil)) (tally_Tally_Cells_ok _ _ _ z10.2) (fun _ _ => wr_n) (fun _ => rfl) (fun z14α z13 => ?_)
      refine o_weak (H' := [.vec z11α (T_deque_Cell_rep) z10.2.was.cells, .obj true z4 z5 (.dat (T_tally_Tally_repo z11α)) z10.2]) (sub_pick [0, 1] rfl rfl) ?_
      refine o_eql rfl rfl (guard_some rfl rfl rfl) (look_tmp rfl) (look_int rfl) (fun h => h) (fun _ => rfl) ?_
      refine o_pick rfl rfl guard_none (look_tmp rfl) (look_tmp rfl) look_bool (fun _ => rfl) (fun h1 h2 => pick_t ((fun _ => rfl) h1) h2) (fun _ _ => rfl) ?_
      refine o_assign rfl rfl guard_none (look_tmp rfl) (fun _ => rfl) ?_
      refine o_lt (fun z15 => ?_)
      refine o_end ?_
      refine den_code_ret ?_
      exact dene_res (res1 rfl (rv_tmp rfl))

theorem law17_few_ok  (l_0 : (List T_law17_Step)) : FunOk Try.prog 25 [⟨(T_law17_Step_rep).slice, l_0, true⟩] (law17_few l_0) ((T_law17_Step_rep).slice) := by
  refine fun_ok Try.func25 rfl Try.ntmps25 rfl (all_cons rfl all_nil) (fun w0 ok0 => ?_)
  refine den_seq ?_
  refine den_region rfl ?_
  refine o_assign rfl rfl guard_none look_nil1 (fun _ => rfl) ?_
  refine o_end ?_
  refine den_seq ?_
  refine den_seq ?_
  refine den_region rfl ?_
  refine o_move rfl rfl guard_none (look_tmp rfl) (fun _ => rfl) ?_
  refine o_llen Try.underlying44 rfl rfl guard_none (look_tmp rfl) (fun _ => rfl) ?_
  refine o_gtr rfl rfl guard_none (look_tmp rfl) (look_int rfl) (fun _ => rfl) (fun _ => rfl) ?_
  refine o_end ?_
  refine den_cond (look_tmp rfl) ?_ ?_
  · refine den_seq ?_
    refine den_region rfl ?_
    refine o_move rfl rfl guard_none (look_tmp rfl) (fun _ => rfl) ?_
    refine o_lsub Try.underlying44 type49 rfl rfl (look_tmp rfl) rfl bnd_none (bnd_some (look_int rfl) (fun _ => rfl)) (fun z1 => ?_)
    refine o_assign rfl rfl guard_none (look_tmp rfl) (fun _ => rfl) ?_
    refine o_end ?_
    refine den_code_ret ?_
    refine dene_ret ?_
    exact dene_res (res1 rfl (rv_tmp rfl))
  · refine den_skip ?_
    refine den_seq ?_
    refine den_region rfl ?_
    refine o_move rfl rfl guard_none (look_tmp rfl) (fun _ => rfl) ?_
    refine o_assign rfl rfl guard_none (look_tmp rfl) (fun _ => rfl) ?_
    refine o_end ?_
    refine den_code_ret ?_
    exact dene_res (res1 rfl (rv_tmp rfl))

theorem law17_told_ok  (l_0 : (List T_law17_Step)) (i_1 : Int) (hi_2 : Int) : FunOk Try.prog 26 [⟨(T_law17_Step_rep).slice, l_0, true⟩, ⟨Rep.int .i64, i_1, true⟩, ⟨Rep.int .i64, hi_2, true⟩] (law17_told l_0 i_1 hi_2) (Rep.pair (Rep.int .i64) (Rep.int .i64)) := by
  refine fun_ok Try.func26 rfl Try.ntmps26 rfl (all_cons rfl (all_cons rfl (all_cons rfl all_nil))) (fun w0 ok0 => ?_)
  refine den_seq ?_
  refine den_region rfl ?_
  refine o_assign rfl rfl guard_none (look_int rfl) (fun _ => rfl) ?_
  refine o_assign rfl rfl guard_none (look_int rfl) (fun _ => rfl) ?_
  refine o_end ?_
  refine den_seq ?_
  refine den_region rfl ?_
  refine o_assign rfl rfl guard_none look_nil1 (fun _ => rfl) ?_
  refine o_end ?_
  refine den_seq ?_
  refine den_region rfl ?_
  refine o_assign rfl rfl guard_none (look_int rfl) (fun _ => rfl) ?_
  refine o_end ?_
  refine den_seq ?_
  refine den_seq ?_
  refine den_region rfl ?_
  refine o_assign rfl rfl guard_none (look_int rfl) (fun _ => rfl) ?_
  refine o_end ?_
  refine den_bindA (A := Value) (fun z1α z1 => [(9, ⟨Rep.int .i64, z1.1, true⟩), (0, ⟨(T_law17_Step_rep).slice, l_0, true⟩), (1, ⟨Rep.int .i64, i_1, true⟩), (2, ⟨Rep.int .i64, hi_2, true⟩), (8, ⟨Rep.val1, z1α, true⟩)]) (fun z1α z1 => [.vec z1α (Rep.int .i64) z1.2]) ?_ (fun z1α z1 => ?_)
  · refine den_block ?_
    refine den_loopA (A := Value) (law17_told_L2b l_0 i_1) (fun z8α z8 => [(9, ⟨Rep.int .i64, z8.1, true⟩), (10, ⟨Rep.int .i64, z8.2.1, true⟩), (0, ⟨(T_law17_Step_rep).slice, l_0, true⟩), (1, ⟨Rep.int .i64, i_1, true⟩), (2, ⟨Rep.int .i64, hi_2, true⟩), (8, ⟨Rep.val1, z8α, true⟩)]) (fun z8α z8 => [.vec z8α (Rep.int .i64) z8.2.2]) (0, 0, ([] : (List Int))) (.slice none 0 0) (fun z8α z8 => ?_) ((Sub.trans (sub_nilvec (R := Rep.int .i64) rfl) (sub_env (sube_cons rfl (sube_cons rfl (sube_cons rfl (sube_cons rfl (sube_cons rfl (sube_cons rfl (sube_nil))))))))))
    refine den_seq ?_
    refine den_seq ?_
    refine den_region rfl ?_
    refine o_move rfl rfl guard_none (look_tmp rfl) (fun _ => rfl) ?_
    refine o_move rfl rfl guard_none (look_tmp rfl) (fun _ => rfl) ?_
    refine o_leq rfl rfl guard_none (look_tmp rfl) (look_tmp rfl) (fun _ => rfl) (fun _ => rfl) ?_
    refine o_end ?_
    refine den_cond (look_tmp rfl) ?_ ?_
    · refine den_skip ?_
      refine den_seq ?_
      refine den_block ?_
      refine den_seq ?_
      refine den_region rfl ?_
      refine o_move rfl rfl guard_none (look_tmp rfl) (fun _ => rfl) ?_
      refine o_move rfl rfl guard_none (look_tmp rfl) (fun _ => rfl) ?_
      refine o_move rfl rfl guard_none (look_tmp rfl) (fun _ => rfl) ?_
      refine o_iaddr Try.underlying44 type49 rfl rfl (look_tmp rfl) (look_tmp rfl) rfl rfl (fun z9 => ?_)
      refine o_fptr field49_0 type2 (by decide) T_law17_Step_foc0 rfl rfl guard_none (look_tmp rfl) (fun _ => rfl) ?_
      refine o_load type2 rfl rfl guard_none (look_tmp rfl) (fun _ => rfl) ?_
      refine o_max2 rfl rfl guard_none (look_tmp rfl) (look_tmp rfl) (fun _ => rfl) (fun _ => rfl) ?_
      refine o_assign rfl rfl guard_none (look_tmp rfl) (fun _ => rfl) ?_
      refine o_end ?_
      refine den_region rfl ?_
      refine o_move rfl rfl guard_none (look_tmp rfl) (fun _ => rfl) ?_
      refine o_move rfl rfl guard_none (look_tmp rfl) (fun _ => rfl) ?_
      refine o_bslice Try.underlying57 (info_i info2) (info_z info2) type2 rfl rfl rfl rfl rfl rfl guard_none (looksL_cons (look_tmp rfl) (fun _ => rfl) (looksL_nil)) ?_
      refine o_append Try.underlying57 (info_i info2) (info_z info2) (info_all info2).2.1 rfl (info_all info2).2.2 rfl (look_tmp rfl) rfl (feeds_slice Try.underlying57 rfl (look_tmp rfl) rfl) (fun z11 z10 => ?_)
      refine o_assign rfl rfl guard_none (look_tmp rfl) (fun _ => rfl) ?_
      refine o_end ?_
      refine den_blkend ?_
      refine den_region rfl ?_
      refine o_move rfl rfl guard_none (look_tmp rfl) (fun _ => rfl) ?_
      refine o_add rfl rfl guard_none (look_tmp rfl) (look_int rfl) (fun _ => rfl) (fun _ => rfl) ?_
      refine o_assign rfl rfl guard_none (look_tmp rfl) (fun _ => rfl) ?_
      refine o_end ?_
      refine den_nextA z11 ((sub_env (sube_cons rfl (sube_cons rfl (sube_cons rfl (sube_cons rfl (sube_cons rfl (sube_cons rfl (sube_nil)))))))))
    · refine den_code_exit ?_
      refine dene_out rfl ?_
      refine dene_loopA (by simp) ?_
      refine dene_to rfl ?_
      refine den_endA z8α ((sub_env (sube_cons rfl (sube_cons rfl (sube_cons rfl (sube_cons rfl (sube_cons rfl (sube_nil))))))))
  refine den_seq ?_
  refine den_region rfl ?_
  refine o_assign rfl rfl guard_none (look_int rfl) (fun _ => rfl) ?_
  refine o_assign rfl rfl guard_none (look_int rfl) (fun _ => rfl) ?_
  refine o_assign rfl rfl guard_none (look_int rfl) (fun _ => rfl) ?_
  refine o_end ?_
  refine den_seq ?_
  refine den_seq ?_
  refine den_region rfl ?_
  refine o_assign rfl rfl guard_none (look_int rfl) (fun _ => rfl) ?_
  refine o_end ?_
  refine den_bind (fun z2 => [(11, ⟨Rep.int .i64, z2.1, true⟩), (12, ⟨Rep.int .i64, z2.2, true⟩)]) (fun z2 => []) ?_ (fun z2 => ?_)
  · refine den_block ?_
    refine den_loop (law17_told_L1b z1 l_0 i_1 hi_2) (fun z3 => [(11, ⟨Rep.int .i64, z3.1, true⟩), (12, ⟨Rep.int .i64, z3.2.1, true⟩), (13, ⟨Rep.int .i64, z3.2.2.1, true⟩), (14, ⟨Rep.int .i64, z3.2.2.2, true⟩), (0, ⟨(T_law17_Step_rep).slice, l_0, true⟩), (1, ⟨Rep.int .i64, i_1, true⟩), (2, ⟨Rep.int .i64, hi_2, true⟩), (8, ⟨Rep.val1, z1α, true⟩), (9, ⟨Rep.int .i64, z1.1, true⟩)]) (fun z3 => [.vec z1α (Rep.int .i64) z1.2]) (0, 0, (-1), 0) (fun z3 => ?_) ((sub_env (sube_cons rfl (sube_cons rfl (sube_cons rfl (sube_cons rfl (sube_cons rfl (sube_cons rfl (sube_cons rfl (sube_cons rfl (sube_cons rfl (sube_nil))))))))))))
    refine den_seq ?_
    refine den_seq ?_
    refine den_region rfl ?_
    refine o_move rfl rfl guard_none (look_tmp rfl) (fun _ => rfl) ?_
    refine o_move rfl rfl guard_none (look_tmp rfl) (fun _ => rfl) ?_
    refine o_leq rfl rfl guard_none (look_tmp rfl) (look_tmp rfl) (fun _ => rfl) (fun _ => rfl) ?_
    refine o_end ?_
    refine den_cond (look_tmp rfl) ?_ ?_
    · refine den_skip ?_
      refine den_seq ?_
      refine den_block ?_
      refine den_seq ?_
      refine den_seq ?_
      refine den_region rfl ?_
      refine o_move rfl rfl guard_none (look_tmp rfl) (fun _ => rfl) ?_
      refine o_move rfl rfl guard_none (look_tmp rfl) (fun _ => rfl) ?_
      refine o_iaddr Try.underlying44 type49 rfl rfl (look_tmp rfl) (look_tmp rfl) rfl rfl (fun z4 => ?_)
      refine o_fptr field49_1 type4 (by decide) T_law17_Step_foc1 rfl rfl guard_none (look_tmp rfl) (fun _ => rfl) ?_
      refine o_load type4 rfl rfl guard_none (look_tmp rfl) (fun _ => rfl) ?_
      refine o_not rfl rfl guard_none (look_tmp rfl) (fun _ => rfl) ?_
      refine o_move rfl rfl guard_none (look_tmp rfl) (fun _ => rfl) ?_
      refine o_move rfl rfl (guard_some rfl rfl rfl) (look_tmp rfl) (fun _ => rfl) ?_
      refine o_move rfl rfl (guard_some rfl rfl rfl) (look_tmp rfl) (fun _ => rfl) ?_
      refine o_move rfl rfl (guard_some rfl rfl rfl) (look_tmp rfl) (fun _ => rfl) ?_
      refine o_vaddrgh 0 (.inl rfl) Try.underlying57 type2 rfl (guard_some rfl rfl rfl) (look_tmp rfl) (look_tmp rfl) (fun h => h) (fun h => h) (fun z5 h_z5 => ?_)
      refine o_vload (j := z5) (u := (z1.2.getD z5 0)) 0 (.inl rfl) type2 rfl (guard_some rfl rfl rfl) (fun h => atg_get rfl h_z5 ((fun h => h) h)) (look_tmp rfl) (fun h => h) ?_
      refine o_sub rfl rfl (guard_some rfl rfl rfl) (look_tmp rfl) (look_tmp rfl) (fun h => h) (fun h => h) ?_
      refine o_move rfl rfl (guard_some rfl rfl rfl) (look_tmp rfl) (fun _ => rfl) ?_
      refine o_gtr rfl rfl (guard_some rfl rfl rfl) (look_tmp rfl) (look_tmp rfl) (fun h => h) (fun h => h) ?_
      refine o_pick rfl rfl guard_none (look_tmp rfl) look_bool (look_tmp rfl) (fun _ => rfl) (fun _ _ => rfl) (fun h1 h2 => pick_f ((fun _ => rfl) h1) h2) ?_
      refine o_end ?_
      refine den_cond (look_tmp rfl) ?_ ?_
      · refine den_code_exit ?_
        refine dene_to rfl ?_
        refine den_region rfl ?_
        refine o_move rfl rfl guard_none (look_tmp rfl) (fun _ => rfl) ?_
        refine o_add rfl rfl guard_none (look_tmp rfl) (look_int rfl) (fun _ => rfl) (fun _ => rfl) ?_
        refine o_assign rfl rfl guard_none (look_tmp rfl) (fun _ => rfl) ?_
        refine o_end ?_
        refine den_next ((sub_env (sube_cons rfl (sube_cons rfl (sube_cons rfl (sube_cons rfl (sube_cons rfl (sube_cons rfl (sube_cons rfl (sube_cons rfl (sube_cons rfl (sube_nil))))))))))))
      · refine den_skip ?_
        refine den_seq ?_
        refine den_region rfl ?_
        refine o_move rfl rfl guard_none (look_tmp rfl) (fun _ => rfl) ?_
        refine o_add rfl rfl guard_none (look_tmp rfl) (look_int rfl) (fun _ => rfl) (fun _ => rfl) ?_
        refine o_assign rfl rfl guard_none (look_tmp rfl) (fun _ => rfl) ?_
        refine o_end ?_
        refine den_seq ?_
        refine den_region rfl ?_
        refine o_move rfl rfl guard_none (look_tmp rfl) (fun _ => rfl) ?_
        refine o_move rfl rfl guard_none (look_tmp rfl) (fun _ => rfl) ?_
        refine o_vaddrh 0 (.inl rfl) Try.underlying57 type2 rfl (look_tmp rfl) (look_tmp rfl) rfl rfl (fun z6 h_z6 => ?_)
        refine o_vload (j := z6) (u := (z1.2.getD z6 0)) 0 (.inl rfl) type2 rfl guard_none (fun _ => at_get rfl h_z6) (look_tmp rfl) (fun _ => rfl) ?_
        refine o_move rfl rfl guard_none (look_tmp rfl) (fun _ => rfl) ?_
        refine o_neq rfl rfl guard_none (look_tmp rfl) (look_tmp rfl) (fun _ => rfl) (fun _ => rfl) ?_
        refine o_end ?_
        refine den_cond (look_tmp rfl) ?_ ?_
        · refine den_seq ?_
          refine den_region rfl ?_
          refine o_move rfl rfl guard_none (look_tmp rfl) (fun _ => rfl) ?_
          refine o_add rfl rfl guard_none (look_tmp rfl) (look_int rfl) (fun _ => rfl) (fun _ => rfl) ?_
          refine o_assign rfl rfl guard_none (look_tmp rfl) (fun _ => rfl) ?_
          refine o_end ?_
          refine den_region rfl ?_
          refine o_move rfl rfl guard_none (look_tmp rfl) (fun _ => rfl) ?_
          refine o_move rfl rfl guard_none (look_tmp rfl) (fun _ => rfl) ?_
          refine o_vaddrh 0 (.inl rfl) Try.underlying57 type2 rfl (look_tmp rfl) (look_tmp rfl) rfl rfl (fun z7 h_z7 => ?_)
          refine o_vload (j := z7) (u := (z1.2.getD z7 0)) 0 (.inl rfl) type2 rfl guard_none (fun _ => at_get rfl h_z7) (look_tmp rfl) (fun _ => rfl) ?_
          refine o_assign rfl rfl guard_none (look_tmp rfl) (fun _ => rfl) ?_
          refine o_end ?_
          refine den_blkend ?_
          refine den_region rfl ?_
          refine o_move rfl rfl guard_none (look_tmp rfl) (fun _ => rfl) ?_
          refine o_add rfl rfl guard_none (look_tmp rfl) (look_int rfl) (fun _ => rfl) (fun _ => rfl) ?_
          refine o_assign rfl rfl guard_none (look_tmp rfl) (fun _ => rfl) ?_
          refine o_end ?_
          refine den_next ((sub_env (sube_cons rfl (sube_cons rfl (sube_cons rfl (sube_cons rfl (sube_cons rfl (sube_cons rfl (sube_cons rfl (sube_cons rfl (sube_cons rfl (sube_nil))))))))))))
        · refine den_skip ?_
          refine den_blkend ?_
          refine den_region rfl ?_
          refine o_move rfl rfl guard_none (look_tmp rfl) (fun _ => rfl) ?_
          refine o_add rfl rfl guard_none (look_tmp rfl) (look_int rfl) (fun _ => rfl) (fun _ => rfl) ?_
          refine o_assign rfl rfl guard_none (look_tmp rfl) (fun _ => rfl) ?_
          refine o_end ?_
          refine den_next ((sub_env (sube_cons rfl (sube_cons rfl (sube_cons rfl (sube_cons rfl (sube_cons rfl (sube_cons rfl (sube_cons rfl (sube_cons rfl (sube_cons rfl (sube_nil))))))))))))
    · refine den_code_exit ?_
      refine dene_out rfl ?_
      refine dene_loop (by simp) ?_
      refine dene_to rfl ?_
      refine den_end ((Sub.trans (sub_pick [] rfl rfl) (sub_env (sube_cons rfl (sube_cons rfl (sube_nil))))))
  refine den_seq ?_
  refine den_region rfl ?_
  refine o_move rfl rfl guard_none (look_tmp rfl) (fun _ => rfl) ?_
  refine o_move rfl rfl guard_none (look_tmp rfl) (fun _ => rfl) ?_
  refine o_assign rfl rfl guard_none (look_tmp rfl) (fun _ => rfl) ?_
  refine o_assign rfl rfl guard_none (look_tmp rfl) (fun _ => rfl) ?_
  refine o_end ?_
  refine den_code_ret ?_
  exact dene_res (res2 rfl (rv_tmp rfl) (rv_tmp rfl))

theorem law17_TallyTells_ok  (hi_0 : Int) (l_1 : (List T_law17_Step)) : FunOk Try.prog 7 [⟨Rep.int .i64, hi_0, true⟩, ⟨(T_law17_Step_rep).slice, l_1, true⟩] (law17_TallyTells hi_0 l_1) (Rep.bool) := by
  refine fun_ok Try.func7 rfl Try.ntmps7 rfl (all_cons rfl (all_cons rfl all_nil)) (fun w0 ok0 => ?_)
  refine den_seq ?_
  refine den_region rfl ?_
  refine o_assign rfl rfl guard_none look_bool (fun _ => rfl) ?_
  refine o_end ?_
  refine den_seq ?_
  refine den_seq ?_
  refine den_region rfl ?_
  refine o_call rfl rfl rfl callable21 (looks_nil) (law17_alive_ok) (fun z1 => ?_)
  refine o_not rfl rfl guard_none (look_tmp rfl) (fun _ => rfl) ?_
  refine o_end ?_
  refine den_cond (look_tmp rfl) ?_ ?_
  · refine den_seq ?_
    refine den_region rfl ?_
    refine o_assign rfl rfl guard_none look_bool (fun _ => rfl) ?_
    refine o_end ?_
    refine den_code_ret ?_
    refine dene_ret ?_
    exact dene_res (res1 rfl (rv_tmp rfl))
  · refine den_skip ?_
    refine den_seq ?_
    refine den_region rfl ?_
    refine o_move rfl rfl guard_none (look_tmp rfl) (fun _ => rfl) ?_
    refine o_call rfl rfl rfl callable25 (looks_cons (look_tmp rfl) (fun _ => rfl) (looks_nil)) (law17_few_ok _) (fun z2 => ?_)
    refine o_assign rfl rfl guard_none (look_tmp rfl) (fun _ => rfl) ?_
    refine o_end ?_
    refine den_seq ?_
    refine den_region rfl ?_
    refine o_move rfl rfl guard_none (look_tmp rfl) (fun _ => rfl) ?_
    refine o_weak (H' := [] ++ ([] ++ [])) (sub_pick [] rfl rfl) ?_
    refine o_callU rfl rfl rfl rfl rfl callable22 (looks_cons (look_tmp rfl) (fun _ => rfl) (looks_nil)) .nil (tally_New_ok hi_0) (fun _ _ => (wr_v (wr_c wr_n))) (fun z4α z3 => ?_)
    obtain ⟨⟨z5, z6⟩, z7⟩ := z4α
    refine o_weak (H' := [.vec z7 (T_deque_Cell_rep) z3.was.cells, .obj true z5 z6 (.dat (T_tally_Tally_repo z7)) z3]) (sub_pick [0, 1] rfl rfl) ?_
    refine o_assign rfl rfl guard_none (look_tmp rfl) (fun _ => rfl) ?_
    refine o_end ?_
    refine den_seq ?_
    refine den_seq ?_
    refine den_region rfl ?_
    refine o_assign rfl rfl guard_none (look_int rfl) (fun _ => rfl) ?_
    refine o_end ?_
    refine den_bothA (A := Value) (fun z8α z8 => [(1, ⟨(T_law17_Step_rep).slice, z2, true⟩), (5, ⟨Rep.addr, (z5, z6), true⟩)]) (fun z8α z8 => [.vec z8α (T_deque_Cell_rep) z8.was.cells, .obj true z5 z6 (.dat (T_tally_Tally_repo z8α)) z8]) ?_ (fun z8α z8 => ?_)
    · refine den_block ?_
      refine den_loopA (A := Value) (law17_TallyTells_L1b z2 hi_0) (fun z12α z12 => [(6, ⟨Rep.int .i64, z12.1, true⟩), (0, ⟨Rep.int .i64, hi_0, true⟩), (1, ⟨(T_law17_Step_rep).slice, z2, true⟩), (5, ⟨Rep.addr, (z5, z6), true⟩)]) (fun z12α z12 => [.vec z12α (T_deque_Cell_rep) z12.2.was.cells, .obj true z5 z6 (.dat (T_tally_Tally_repo z12α)) z12.2]) (0, z3) z7 (fun z12α z12 => ?_) ((sub_env (sube_cons rfl (sube_cons rfl (sube_cons rfl (sube_cons rfl (sube_nil)))))))
      refine den_seq ?_
      refine den_seq ?_
      refine den_region rfl ?_
      refine o_move rfl rfl guard_none (look_tmp rfl) (fun _ => rfl) ?_
      refine o_move rfl rfl guard_none (look_tmp rfl) (fun _ => rfl) ?_
      refine o_llen Try.underlying44 rfl rfl guard_none (look_tmp rfl) (fun _ => rfl) ?_
      refine o_lss rfl rfl guard_none (look_tmp rfl) (look_tmp rfl) (fun _ => rfl) (fun _ => rfl) ?_
      refine o_end ?_
      refine den_cond (look_tmp rfl) ?_ ?_
      · refine den_skip ?_
        refine den_seq ?_
        refine den_block ?_
        refine den_seq ?_
        refine den_region rfl ?_
        refine o_move rfl rfl guard_none (look_tmp rfl) (fun _ => rfl) ?_
        refine o_move rfl rfl guard_none (look_tmp rfl) (fun _ => rfl) ?_
        refine o_move rfl rfl guard_none (look_tmp rfl) (fun _ => rfl) ?_
        refine o_max2 rfl rfl guard_none (look_tmp rfl) (look_int rfl) (fun _ => rfl) (fun _ => rfl) ?_
        refine o_call rfl rfl rfl callable26 (looks_cons (look_tmp rfl) (fun _ => rfl) (looks_cons (look_tmp rfl) (fun _ => rfl) (looks_cons (look_tmp rfl) (fun _ => rfl) (looks_nil)))) (law17_told_ok _ _ _) (fun z13 => ?_)
        refine o_move rfl rfl guard_none (look_tmp rfl) (fun _ => rfl) ?_
        refine o_fst rfl rfl guard_none (look_tmp rfl) (fun _ => rfl) ?_
        refine o_snd rfl rfl guard_none (look_tmp rfl) (fun _ => rfl) ?_
        refine o_assign rfl rfl guard_none (look_tmp rfl) (fun _ => rfl) ?_
        refine o_assign rfl rfl guard_none (look_tmp rfl) (fun _ => rfl) ?_
        refine o_end ?_
        refine den_seq ?_
        refine den_open (fun z15 h_z15 => ?_)
        refine den_open (fun z16 h_z16 => ?_)
        refine den_open (fun z17 h_z17 => ?_)
        refine den_open (fun z19 h_z19 => ?_)
        have hB : ∀ (z14α : Value) (S : Nat → Bool) (b11 : Bool), S 11 = b11 → (([(cond (S 11) (.gone) (.vec z12α (T_deque_Cell_rep) z12.2.was.cells)), (cond (S 11) (.obj true z5 z6 (.dat (T_tally_Tally_repo z14α)) z17.2) (.obj true z5 z6 (.dat (T_tally_Tally_repo z12α)) z12.2)), (cond (S 11) (.vec (z14α) (T_deque_Cell_rep) z17.2.was.cells) (.gone))] : List Go.Eng.Item)) = ([(cond b11 (.gone) (.vec z12α (T_deque_Cell_rep) z12.2.was.cells)), (cond b11 (.obj true z5 z6 (.dat (T_tally_Tally_repo z14α)) z17.2) (.obj true z5 z6 (.dat (T_tally_Tally_repo z12α)) z12.2)), (cond b11 (.vec (z14α) (T_deque_Cell_rep) z17.2.was.cells) (.gone))] : List Go.Eng.Item) := fun z14α S b11 h11 => by subst h11; rfl
        refine den_weak sub_gone ?_
        refine den_weak (sub_pick (H' := [.vec z12α (T_deque_Cell_rep) z12.2.was.cells, .obj true z5 z6 (.dat (T_tally_Tally_repo z12α)) z12.2, .gone]) [1, 2, 0] rfl rfl) ?_
        refine den_drawA (A := Value) (H' := fun z14α => [.gone, .obj true z5 z6 (.dat (T_tally_Tally_repo z14α)) z17.2, .vec (z14α) (T_deque_Cell_rep) z17.2.was.cells]) (fun z14α => [(29, ⟨Rep.addr, (z5, z6), true⟩), (30, ⟨(T_law17_Step_rep).slice, z2, true⟩), (31, ⟨Rep.int .i64, z12.1, true⟩), (32, ⟨(T_law17_Step_rep).ptrTo, z15, true⟩), (33, ⟨(Rep.int .i64).ptrTo, z15.At, true⟩), (34, ⟨Rep.int .i64, z15.At, true⟩), (35, ⟨(T_law17_Step_rep).slice, z2, true⟩), (36, ⟨Rep.int .i64, z12.1, true⟩), (37, ⟨(T_law17_Step_rep).ptrTo, z16, true⟩), (38, ⟨(Rep.bool).ptrTo, z16.Is, true⟩), (39, ⟨Rep.bool, z16.Is, true⟩), (40, ⟨Rep.int .i64, z17.1, true⟩), (41, ⟨Rep.int .i64, z13.1, true⟩), (42, ⟨Rep.bool, z17.1 != z13.1, true⟩), (43, ⟨Rep.bool, z17.1 != z13.1, true⟩), (44, ⟨Rep.addr, (z5, z6), (true && ((z17.1 != z13.1) == false))⟩), (45, ⟨Rep.int .i64, z19, (true && ((z17.1 != z13.1) == false))⟩), (46, ⟨Rep.int .i64, z13.2, (true && ((z17.1 != z13.1) == false))⟩), (47, ⟨Rep.bool, z19 != z13.2, (true && ((z17.1 != z13.1) == false))⟩), (48, ⟨Rep.bool, cond (z17.1 != z13.1) true (z19 != z13.2), true⟩)]) (fun z14α S => [(cond (S 11) (.gone) (.vec z12α (T_deque_Cell_rep) z12.2.was.cells)), (cond (S 11) (.obj true z5 z6 (.dat (T_tally_Tally_repo z14α)) z17.2) (.obj true z5 z6 (.dat (T_tally_Tally_repo z12α)) z12.2)), (cond (S 11) (.vec (z14α) (T_deque_Cell_rep) z17.2.was.cells) (.gone))]) (.slice none 0 0) mixed (fun _ => rfl) rfl rfl (fun z14α S hS => hB z14α S true (hS 11 (by decide))) ⟨?_, ?_, ?_, ?_, ?_, ?_, ?_, ?_, ?_, ?_, ?_, ?_, ?_, ?_, ?_, ?_, ?_, ?_, ?_, ?_, trivial⟩ (fun z14α => ?_)
        · intro z14α S hc hk hp
          have e11 : S 11 = false := (not_yet (j := 11) (q := 0) hc hk rfl rfl rfl rfl)
          refine eq_H (H' := [.vec z12α (T_deque_Cell_rep) z12.2.was.cells, .obj true z5 z6 (.dat (T_tally_Tally_repo z12α)) z12.2, .gone]) (by first | exact hB z14α S false e11 | (have q := hB z14α S false e11; simp only [cond_true, cond_false] at q; exact q)) ?_
          refine o_move rfl rfl guard_none (look_o rfl rfl) (fun _ => rfl) ?_
          apply h_endA (α := z14α) z14α
          · exact (.same (.same (.same (.same (.same (.same (.same (.same (.same (.same (.same (.same (.same (.same (.same (.same (.same (.same (.same (.same .nil))))))))))))))))))))
          · exact rfl
          · exact rfl
          · exact rfl
          · exact hB z14α (fun k => S k || Nat.beq k 0) false (or_f e11 rfl)
        · intro z14α S hc hk hp
          have e11 : S 11 = false := (not_yet (j := 11) (q := 1) hc (not_yet (j := 5) (q := 0) hc (not_yet (j := 4) (q := 0) hc (not_yet (j := 3) (q := 0) hc hk rfl rfl rfl rfl) rfl rfl rfl rfl) rfl rfl rfl rfl) rfl rfl rfl rfl)
          refine eq_H (H' := [.vec z12α (T_deque_Cell_rep) z12.2.was.cells, .obj true z5 z6 (.dat (T_tally_Tally_repo z12α)) z12.2, .gone]) (by first | exact hB z14α S false e11 | (have q := hB z14α S false e11; simp only [cond_true, cond_false] at q; exact q)) ?_
          refine o_move rfl rfl guard_none (look_o rfl rfl) (fun _ => rfl) ?_
          apply h_endA (α := z14α) z14α
          · exact (.same (.same (.same (.same (.same (.same (.same (.same (.same (.same (.same (.same (.same (.same (.same (.same (.same (.same (.same (.same .nil))))))))))))))))))))
          · exact rfl
          · exact rfl
          · exact rfl
          · exact hB z14α (fun k => S k || Nat.beq k 1) false (or_f e11 rfl)
        · intro z14α S hc hk hp
          have e11 : S 11 = false := (not_yet (j := 11) (q := 1) hc (not_yet (j := 5) (q := 0) hc (not_yet (j := 4) (q := 0) hc (not_yet (j := 3) (q := 1) hc hk rfl rfl rfl rfl) rfl rfl rfl rfl) rfl rfl rfl rfl) rfl rfl rfl rfl)
          refine eq_H (H' := [.vec z12α (T_deque_Cell_rep) z12.2.was.cells, .obj true z5 z6 (.dat (T_tally_Tally_repo z12α)) z12.2, .gone]) (by first | exact hB z14α S false e11 | (have q := hB z14α S false e11; simp only [cond_true, cond_false] at q; exact q)) ?_
          refine o_move rfl rfl guard_none (look_o rfl rfl) (fun _ => rfl) ?_
          apply h_endA (α := z14α) z14α
          · exact (.same (.same (.same (.same (.same (.same (.same (.same (.same (.same (.same (.same (.same (.same (.same (.same (.same (.same (.same (.same .nil))))))))))))))))))))
          · exact rfl
          · exact rfl
          · exact rfl
          · exact hB z14α (fun k => S k || Nat.beq k 2) false (or_f e11 rfl)
        · intro z14α S hc hk hp
          have e11 : S 11 = false := (not_yet (j := 11) (q := 1) hc (not_yet (j := 5) (q := 0) hc (not_yet (j := 4) (q := 0) hc hk rfl rfl rfl rfl) rfl rfl rfl rfl) rfl rfl rfl rfl)
          refine eq_H (H' := [.vec z12α (T_deque_Cell_rep) z12.2.was.cells, .obj true z5 z6 (.dat (T_tally_Tally_repo z12α)) z12.2, .gone]) (by first | exact hB z14α S false e11 | (have q := hB z14α S false e11; simp only [cond_true, cond_false] at q; exact q)) ?_
          refine o_from (bind_eqO h_z15) ?_
          refine o_iaddr Try.underlying44 type49 rfl rfl (look_d rfl rfl (pr hp 0 rfl rfl)) (look_d rfl rfl (pr hp 1 rfl rfl)) rfl rfl (o_eqO ?_)
          apply h_endA (α := z14α) z14α
          · exact (.same (.same (.same (.same (.same (.same (.same (.same (.same (.same (.same (.same (.same (.same (.same (.same (.same (.same (.same (.same .nil))))))))))))))))))))
          · exact rfl
          · exact rfl
          · exact rfl
          · exact hB z14α (fun k => S k || Nat.beq k 3) false (or_f e11 rfl)
        · intro z14α S hc hk hp
          have e11 : S 11 = false := (not_yet (j := 11) (q := 1) hc (not_yet (j := 5) (q := 0) hc hk rfl rfl rfl rfl) rfl rfl rfl rfl)
          refine eq_H (H' := [.vec z12α (T_deque_Cell_rep) z12.2.was.cells, .obj true z5 z6 (.dat (T_tally_Tally_repo z12α)) z12.2, .gone]) (by first | exact hB z14α S false e11 | (have q := hB z14α S false e11; simp only [cond_true, cond_false] at q; exact q)) ?_
          refine o_fptr field49_0 type2 (by decide) T_law17_Step_foc0 rfl rfl guard_none (look_d rfl rfl (pr hp 0 rfl rfl)) (fun _ => rfl) ?_
          apply h_endA (α := z14α) z14α
          · exact (.same (.same (.same (.same (.same (.same (.same (.same (.same (.same (.same (.same (.same (.same (.same (.same (.same (.same (.same (.same .nil))))))))))))))))))))
          · exact rfl
          · exact rfl
          · exact rfl
          · exact hB z14α (fun k => S k || Nat.beq k 4) false (or_f e11 rfl)
        · intro z14α S hc hk hp
          have e11 : S 11 = false := (not_yet (j := 11) (q := 1) hc hk rfl rfl rfl rfl)
          refine eq_H (H' := [.vec z12α (T_deque_Cell_rep) z12.2.was.cells, .obj true z5 z6 (.dat (T_tally_Tally_repo z12α)) z12.2, .gone]) (by first | exact hB z14α S false e11 | (have q := hB z14α S false e11; simp only [cond_true, cond_false] at q; exact q)) ?_
          refine o_load type2 rfl rfl guard_none (look_d rfl rfl (pr hp 0 rfl rfl)) (fun _ => rfl) ?_
          apply h_endA (α := z14α) z14α
          · exact (.same (.same (.same (.same (.same (.same (.same (.same (.same (.same (.same (.same (.same (.same (.same (.same (.same (.same (.same (.same .nil))))))))))))))))))))
          · exact rfl
          · exact rfl
          · exact rfl
          · exact hB z14α (fun k => S k || Nat.beq k 5) false (or_f e11 rfl)
        · intro z14α S hc hk hp
          have e11 : S 11 = false := (not_yet (j := 11) (q := 2) hc (not_yet (j := 10) (q := 0) hc (not_yet (j := 9) (q := 0) hc (not_yet (j := 8) (q := 0) hc hk rfl rfl rfl rfl) rfl rfl rfl rfl) rfl rfl rfl rfl) rfl rfl rfl rfl)
          refine eq_H (H' := [.vec z12α (T_deque_Cell_rep) z12.2.was.cells, .obj true z5 z6 (.dat (T_tally_Tally_repo z12α)) z12.2, .gone]) (by first | exact hB z14α S false e11 | (have q := hB z14α S false e11; simp only [cond_true, cond_false] at q; exact q)) ?_
          refine o_move rfl rfl guard_none (look_o rfl rfl) (fun _ => rfl) ?_
          apply h_endA (α := z14α) z14α
          · exact (.same (.same (.same (.same (.same (.same (.same (.same (.same (.same (.same (.same (.same (.same (.same (.same (.same (.same (.same (.same .nil))))))))))))))))))))
          · exact rfl
          · exact rfl
          · exact rfl
          · exact hB z14α (fun k => S k || Nat.beq k 6) false (or_f e11 rfl)
        · intro z14α S hc hk hp
          have e11 : S 11 = false := (not_yet (j := 11) (q := 2) hc (not_yet (j := 10) (q := 0) hc (not_yet (j := 9) (q := 0) hc (not_yet (j := 8) (q := 1) hc hk rfl rfl rfl rfl) rfl rfl rfl rfl) rfl rfl rfl rfl) rfl rfl rfl rfl)
          refine eq_H (H' := [.vec z12α (T_deque_Cell_rep) z12.2.was.cells, .obj true z5 z6 (.dat (T_tally_Tally_repo z12α)) z12.2, .gone]) (by first | exact hB z14α S false e11 | (have q := hB z14α S false e11; simp only [cond_true, cond_false] at q; exact q)) ?_
          refine o_move rfl rfl guard_none (look_o rfl rfl) (fun _ => rfl) ?_
          apply h_endA (α := z14α) z14α
          · exact (.same (.same (.same (.same (.same (.same (.same (.same (.same (.same (.same (.same (.same (.same (.same (.same (.same (.same (.same (.same .nil))))))))))))))))))))
          · exact rfl
          · exact rfl
          · exact rfl
          · exact hB z14α (fun k => S k || Nat.beq k 7) false (or_f e11 rfl)
        · intro z14α S hc hk hp
          have e11 : S 11 = false := (not_yet (j := 11) (q := 2) hc (not_yet (j := 10) (q := 0) hc (not_yet (j := 9) (q := 0) hc hk rfl rfl rfl rfl) rfl rfl rfl rfl) rfl rfl rfl rfl)
          refine eq_H (H' := [.vec z12α (T_deque_Cell_rep) z12.2.was.cells, .obj true z5 z6 (.dat (T_tally_Tally_repo z12α)) z12.2, .gone]) (by first | exact hB z14α S false e11 | (have q := hB z14α S false e11; simp only [cond_true, cond_false] at q; exact q)) ?_
          refine o_from (bind_eqO h_z16) ?_
          refine o_iaddr Try.underlying44 type49 rfl rfl (look_d rfl rfl (pr hp 0 rfl rfl)) (look_d rfl rfl (pr hp 1 rfl rfl)) rfl rfl (o_eqO ?_)
          apply h_endA (α := z14α) z14α
          · exact (.same (.same (.same (.same (.same (.same (.same (.same (.same (.same (.same (.same (.same (.same (.same (.same (.same (.same (.same (.same .nil))))))))))))))))))))
          · exact rfl
          · exact rfl
          · exact rfl
          · exact hB z14α (fun k => S k || Nat.beq k 8) false (or_f e11 rfl)
        · intro z14α S hc hk hp
          have e11 : S 11 = false := (not_yet (j := 11) (q := 2) hc (not_yet (j := 10) (q := 0) hc hk rfl rfl rfl rfl) rfl rfl rfl rfl)
          refine eq_H (H' := [.vec z12α (T_deque_Cell_rep) z12.2.was.cells, .obj true z5 z6 (.dat (T_tally_Tally_repo z12α)) z12.2, .gone]) (by first | exact hB z14α S false e11 | (have q := hB z14α S false e11; simp only [cond_true, cond_false] at q; exact q)) ?_
          refine o_fptr field49_1 type4 (by decide) T_law17_Step_foc1 rfl rfl guard_none (look_d rfl rfl (pr hp 0 rfl rfl)) (fun _ => rfl) ?_
          apply h_endA (α := z14α) z14α
          · exact (.same (.same (.same (.same (.same (.same (.same (.same (.same (.same (.same (.same (.same (.same (.same (.same (.same (.same (.same (.same .nil))))))))))))))))))))
          · exact rfl
          · exact rfl
          · exact rfl
          · exact hB z14α (fun k => S k || Nat.beq k 9) false (or_f e11 rfl)
        · intro z14α S hc hk hp
          have e11 : S 11 = false := (not_yet (j := 11) (q := 2) hc hk rfl rfl rfl rfl)
          refine eq_H (H' := [.vec z12α (T_deque_Cell_rep) z12.2.was.cells, .obj true z5 z6 (.dat (T_tally_Tally_repo z12α)) z12.2, .gone]) (by first | exact hB z14α S false e11 | (have q := hB z14α S false e11; simp only [cond_true, cond_false] at q; exact q)) ?_
          refine o_load type4 rfl rfl guard_none (look_d rfl rfl (pr hp 0 rfl rfl)) (fun _ => rfl) ?_
          apply h_endA (α := z14α) z14α
          · exact (.same (.same (.same (.same (.same (.same (.same (.same (.same (.same (.same (.same (.same (.same (.same (.same (.same (.same (.same (.same .nil))))))))))))))))))))
          · exact rfl
          · exact rfl
          · exact rfl
          · exact hB z14α (fun k => S k || Nat.beq k 10) false (or_f e11 rfl)
        · intro z14α S hc hk hp
          refine eq_H (H' := [.vec z12α (T_deque_Cell_rep) z12.2.was.cells, .obj true z5 z6 (.dat (T_tally_Tally_repo z12α)) z12.2, .gone]) (by first | exact hB z14α S false hk | (have q := hB z14α S false hk; simp only [cond_true, cond_false] at q; exact q)) ?_
          refine o_from (bind_eqO h_z17) ?_
          refine o_weak (H' := [.vec z12α (T_deque_Cell_rep) z12.2.was.cells, .obj true z5 z6 (.dat (T_tally_Tally_repo z12α)) z12.2] ++ ([] ++ [.gone])) (sub_pick [0, 1, 2] rfl rfl) ?_
          refine o_callU rfl rfl rfl rfl rfl callable23 (looks_cons (look_d rfl rfl (pr hp 0 rfl rfl)) (fun _ => rfl) (looks_cons (look_d rfl rfl (pr hp 1 rfl rfl)) (fun _ => rfl) (looks_cons (look_d rfl rfl (pr hp 2 rfl rfl)) (fun _ => rfl) (looks_nil)))) .nil (tally_Tally_Step_ok _ _ _ z12.2 z15.At z16.Is) (fun _ _ => (wr_v (wr_c wr_n))) (fun z18α => o_eqOH ?_)
          refine o_weak (H' := [.vec z18α (T_deque_Cell_rep) z17.2.was.cells, .obj true z5 z6 (.dat (T_tally_Tally_repo z18α)) z17.2, .gone]) (sub_pick [0, 1, 2] rfl rfl) ?_
          refine o_weak sub_gone ?_
          refine o_weak (H' := [.gone, .obj true z5 z6 (.dat (T_tally_Tally_repo z18α)) z17.2, .vec z18α (T_deque_Cell_rep) z17.2.was.cells]) (sub_pick [0, 2, 1] rfl rfl) ?_
          apply h_endA (α := z14α) z18α
          · exact (.same (.same (.same (.same (.same (.same (.same (.same (.same (.same (.same (.same (.same (.same (.same (.same (.same (.same (.same (.same .nil))))))))))))))))))))
          · exact rfl
          · exact rfl
          · exact rfl
          · exact hB z18α (fun k => S k || Nat.beq k 11) true (or_i rfl)
        · intro z14α S hc hk hp
          refine eq_H (H' := [(cond (S 11) (.gone) (.vec z12α (T_deque_Cell_rep) z12.2.was.cells)), (cond (S 11) (.obj true z5 z6 (.dat (T_tally_Tally_repo z14α)) z17.2) (.obj true z5 z6 (.dat (T_tally_Tally_repo z12α)) z12.2)), (cond (S 11) (.vec (z14α) (T_deque_Cell_rep) z17.2.was.cells) (.gone))]) (by first | exact hB z14α S (S 11) rfl | (have q := hB z14α S (S 11) rfl; simp only [cond_true, cond_false] at q; exact q)) ?_
          refine o_move rfl rfl guard_none (look_o rfl rfl) (fun _ => rfl) ?_
          apply h_endA (α := z14α) z14α
          · exact (.same (.same (.same (.same (.same (.same (.same (.same (.same (.same (.same (.same (.same (.same (.same (.same (.same (.same (.same (.same .nil))))))))))))))))))))
          · exact rfl
          · exact rfl
          · exact rfl
          · exact hB z14α (fun k => S k || Nat.beq k 12) (S 11) (or_ne rfl)
        · intro z14α S hc hk hp
          have e11 : S 11 = true := (pr hp 0 rfl rfl)
          refine eq_H (H' := [.gone, .obj true z5 z6 (.dat (T_tally_Tally_repo z14α)) z17.2, .vec (z14α) (T_deque_Cell_rep) z17.2.was.cells]) (by first | exact hB z14α S true e11 | (have q := hB z14α S true e11; simp only [cond_true, cond_false] at q; exact q)) ?_
          refine o_neq rfl rfl guard_none (look_d rfl rfl (pr hp 0 rfl rfl)) (look_d rfl rfl (pr hp 1 rfl rfl)) (fun _ => rfl) (fun _ => rfl) ?_
          apply h_endA (α := z14α) z14α
          · exact (.same (.same (.same (.same (.same (.same (.same (.same (.same (.same (.same (.same (.same (.same (.same (.same (.same (.same (.same (.same .nil))))))))))))))))))))
          · exact rfl
          · exact rfl
          · exact rfl
          · exact hB z14α (fun k => S k || Nat.beq k 13) true (or_t e11)
        · intro z14α S hc hk hp
          have e11 : S 11 = true := (pr hp 1 rfl rfl)
          refine eq_H (H' := [.gone, .obj true z5 z6 (.dat (T_tally_Tally_repo z14α)) z17.2, .vec (z14α) (T_deque_Cell_rep) z17.2.was.cells]) (by first | exact hB z14α S true e11 | (have q := hB z14α S true e11; simp only [cond_true, cond_false] at q; exact q)) ?_
          refine o_move rfl rfl guard_none (look_d rfl rfl (pr hp 0 rfl rfl)) (fun _ => rfl) ?_
          apply h_endA (α := z14α) z14α
          · exact (.same (.same (.same (.same (.same (.same (.same (.same (.same (.same (.same (.same (.same (.same (.same (.same (.same (.same (.same (.same .nil))))))))))))))))))))
          · exact rfl
          · exact rfl
          · exact rfl
          · exact hB z14α (fun k => S k || Nat.beq k 14) true (or_t e11)
        · intro z14α S hc hk hp
          have e11 : S 11 = true := (pr (hc 14 _ rfl (pr hp 0 rfl rfl)) 1 rfl rfl)
          refine eq_H (H' := [.gone, .obj true z5 z6 (.dat (T_tally_Tally_repo z14α)) z17.2, .vec (z14α) (T_deque_Cell_rep) z17.2.was.cells]) (by first | exact hB z14α S true e11 | (have q := hB z14α S true e11; simp only [cond_true, cond_false] at q; exact q)) ?_
          refine o_move rfl rfl (guard_d rfl rfl rfl rfl (pr hp 0 rfl rfl)) (look_o rfl rfl) (fun _ => rfl) ?_
          apply h_endA (α := z14α) z14α
          · exact (.same (.same (.same (.same (.same (.same (.same (.same (.same (.same (.same (.same (.same (.same (.same (.same (.same (.same (.same (.same .nil))))))))))))))))))))
          · exact rfl
          · exact rfl
          · exact rfl
          · exact hB z14α (fun k => S k || Nat.beq k 15) true (or_t e11)
        · intro z14α S hc hk hp
          have e11 : S 11 = true := (pr (hc 14 _ rfl (pr hp 1 rfl rfl)) 1 rfl rfl)
          refine eq_H (H' := [.gone, .obj true z5 z6 (.dat (T_tally_Tally_repo z14α)) z17.2, .vec (z14α) (T_deque_Cell_rep) z17.2.was.cells]) (by first | exact hB z14α S true e11 | (have q := hB z14α S true e11; simp only [cond_true, cond_false] at q; exact q)) ?_
          refine o_from (bind_eqO h_z19) ?_
          refine o_weak (H' := [] ++ ([.vec (z14α) (T_deque_Cell_rep) z17.2.was.cells, .obj true z5 z6 (.dat (T_tally_Tally_repo z14α)) z17.2] ++ [.gone])) (sub_pick [2, 1, 0] rfl rfl) ?_
          refine o_callX 0 () rfl rfl rfl rfl (guard_d rfl rfl rfl rfl (pr hp 1 rfl rfl)) callable24 (looks_cons (look_d rfl rfl (pr hp 0 rfl rfl)) (fun h => h) (looks_nil)) (.vec (.cons .nil)) (tally_Tally_Cells_ok _ _ _ z17.2) (fun _ _ => wr_n) (fun _ => rfl) (fun z20α => o_eqOH ?_)
          refine o_weak (H' := [.vec (z14α) (T_deque_Cell_rep) z17.2.was.cells, .obj true z5 z6 (.dat (T_tally_Tally_repo z14α)) z17.2, .gone]) (sub_pick [0, 1, 2] rfl rfl) ?_
          refine o_weak (H' := [.gone, .obj true z5 z6 (.dat (T_tally_Tally_repo z14α)) z17.2, .vec (z14α) (T_deque_Cell_rep) z17.2.was.cells]) (sub_pick [2, 1, 0] rfl rfl) ?_
          apply h_endA (α := z14α) z14α
          · exact (.same (.same (.same (.same (.same (.same (.same (.same (.same (.same (.same (.same (.same (.same (.same (.same (.same (.same (.same (.same .nil))))))))))))))))))))
          · exact rfl
          · exact rfl
          · exact rfl
          · exact hB z14α (fun k => S k || Nat.beq k 16) true (or_t e11)
        · intro z14α S hc hk hp
          have e11 : S 11 = true := (pr (hc 14 _ rfl (pr hp 0 rfl rfl)) 1 rfl rfl)
          refine eq_H (H' := [.gone, .obj true z5 z6 (.dat (T_tally_Tally_repo z14α)) z17.2, .vec (z14α) (T_deque_Cell_rep) z17.2.was.cells]) (by first | exact hB z14α S true e11 | (have q := hB z14α S true e11; simp only [cond_true, cond_false] at q; exact q)) ?_
          refine o_move rfl rfl (guard_d rfl rfl rfl rfl (pr hp 0 rfl rfl)) (look_o rfl rfl) (fun _ => rfl) ?_
          apply h_endA (α := z14α) z14α
          · exact (.same (.same (.same (.same (.same (.same (.same (.same (.same (.same (.same (.same (.same (.same (.same (.same (.same (.same (.same (.same .nil))))))))))))))))))))
          · exact rfl
          · exact rfl
          · exact rfl
          · exact hB z14α (fun k => S k || Nat.beq k 17) true (or_t e11)
        · intro z14α S hc hk hp
          have e11 : S 11 = true := (pr (hc 14 _ rfl (pr hp 2 rfl rfl)) 1 rfl rfl)
          refine eq_H (H' := [.gone, .obj true z5 z6 (.dat (T_tally_Tally_repo z14α)) z17.2, .vec (z14α) (T_deque_Cell_rep) z17.2.was.cells]) (by first | exact hB z14α S true e11 | (have q := hB z14α S true e11; simp only [cond_true, cond_false] at q; exact q)) ?_
          refine o_neq rfl rfl (guard_d rfl rfl rfl rfl (pr hp 2 rfl rfl)) (look_d rfl rfl (pr hp 0 rfl rfl)) (look_d rfl rfl (pr hp 1 rfl rfl)) (fun h => h) (fun h => h) ?_
          apply h_endA (α := z14α) z14α
          · exact (.same (.same (.same (.same (.same (.same (.same (.same (.same (.same (.same (.same (.same (.same (.same (.same (.same (.same (.same (.same .nil))))))))))))))))))))
          · exact rfl
          · exact rfl
          · exact rfl
          · exact hB z14α (fun k => S k || Nat.beq k 18) true (or_t e11)
        · intro z14α S hc hk hp
          have e11 : S 11 = true := (pr (hc 14 _ rfl (pr hp 0 rfl rfl)) 1 rfl rfl)
          refine eq_H (H' := [.gone, .obj true z5 z6 (.dat (T_tally_Tally_repo z14α)) z17.2, .vec (z14α) (T_deque_Cell_rep) z17.2.was.cells]) (by first | exact hB z14α S true e11 | (have q := hB z14α S true e11; simp only [cond_true, cond_false] at q; exact q)) ?_
          refine o_pick rfl rfl guard_none (look_d rfl rfl (pr hp 0 rfl rfl)) look_bool (look_d rfl rfl (pr hp 1 rfl rfl)) (fun _ => rfl) (fun _ _ => rfl) (fun h1 h2 => pick_f ((fun _ => rfl) h1) h2) ?_
          apply h_endA (α := z14α) z14α
          · exact (.same (.same (.same (.same (.same (.same (.same (.same (.same (.same (.same (.same (.same (.same (.same (.same (.same (.same (.same (.same .nil))))))))))))))))))))
          · exact rfl
          · exact rfl
          · exact rfl
          · exact hB z14α (fun k => S k || Nat.beq k 19) true (or_t e11)
        refine den_weak (H' := [.obj true z5 z6 (.dat (T_tally_Tally_repo z14α)) z17.2, .vec z14α (T_deque_Cell_rep) z17.2.was.cells]) (sub_pick [1, 2] rfl rfl) ?_
        refine den_cond (look_tmp rfl) ?_ ?_
        · refine den_seq ?_
          refine den_region rfl ?_
          refine o_assign rfl rfl guard_none look_bool (fun _ => rfl) ?_
          refine o_end ?_
          refine den_code_ret ?_
          refine dene_ret ?_
          refine dene_loopA (by simp) ?_
          refine dene_ret ?_
          refine dene_bothA (by simp) ?_
          refine dene_ret ?_
          exact dene_res (res1 rfl (rv_tmp rfl))
        · refine den_skip ?_
          refine den_blkend ?_
          refine den_region rfl ?_
          refine o_move rfl rfl guard_none (look_tmp rfl) (fun _ => rfl) ?_
          refine o_add rfl rfl guard_none (look_tmp rfl) (look_int rfl) (fun _ => rfl) (fun _ => rfl) ?_
          refine o_assign rfl rfl guard_none (look_tmp rfl) (fun _ => rfl) ?_
          refine o_end ?_
          refine den_nextA z14α ((Sub.trans (sub_pick [1, 0] rfl rfl) (sub_env (sube_cons rfl (sube_cons rfl (sube_cons rfl (sube_cons rfl (sube_nil))))))))
      · refine den_code_exit ?_
        refine dene_out rfl ?_
        refine dene_loopA (by simp) ?_
        refine dene_to rfl ?_
        refine den_endlA z12α ((sub_env (sube_cons rfl (sube_cons rfl (sube_nil)))))
    refine den_seq ?_
    refine den_region rfl ?_
    refine o_move rfl rfl guard_none (look_tmp rfl) (fun _ => rfl) ?_
    refine o_llen Try.underlying44 rfl rfl guard_none (look_tmp rfl) (fun _ => rfl) ?_
    refine o_gtr rfl rfl guard_none (look_tmp rfl) (look_int rfl) (fun _ => rfl) (fun _ => rfl) ?_
    refine o_move rfl rfl guard_none (look_tmp rfl) (fun _ => rfl) ?_
    refine o_move rfl rfl (guard_some rfl rfl rfl) (look_tmp rfl) (fun _ => rfl) ?_
    refine o_weak (H' := [] ++ ([.vec z8α (T_deque_Cell_rep) z8.was.cells, .obj true z5 z6 (.dat (T_tally_Tally_repo z8α)) z8] ++ [])) (sub_pick [0, 1] rfl rfl) ?_
    refine o_callX 0 () rfl rfl rfl rfl (guard_some rfl rfl rfl) callable24 (looks_cons (look_tmp rfl) (fun h => h) (looks_nil)) (.vec (.cons .nil)) (tally_Tally_Cells_ok _ _ _ z8) (fun _ _ => wr_n) (fun _ => rfl) (fun z10α z9 => ?_)
    refine o_weak (H' := [.vec z8α (T_deque_Cell_rep) z8.was.cells, .obj true z5 z6 (.dat (T_tally_Tally_repo z8α)) z8]) (sub_pick [0, 1] rfl rfl) ?_
    refine o_eql rfl rfl (guard_some rfl rfl rfl) (look_tmp rfl) (look_int rfl) (fun h => h) (fun _ => rfl) ?_
    refine o_pick rfl rfl guard_none (look_tmp rfl) look_bool (look_tmp rfl) (fun _ => rfl) (fun _ _ => rfl) (fun h1 h2 => pick_f ((fun _ => rfl) h1) h2) ?_
    refine o_assign rfl rfl guard_none (look_tmp rfl) (fun _ => rfl) ?_
    refine o_lt (fun z11 => ?_)
    refine o_end ?_
    refine den_code_ret ?_
    exact dene_res (res1 rfl (rv_tmp rfl))

theorem bound_Cells_1_v0_ok (blk1 : Nat) (off1 : Nat) (a_0 : T_api_Expr) (a_1 : Int) : FunOkI Try.prog 62 [⟨T_api_Expr_rep, a_0, true⟩, ⟨.addr, (blk1, off1), true⟩] [.obj true blk1 off1 (.dat (Rep.int .i64)) a_1] (bound_Cells_1_v0 a_0 a_1) (Rep.unit) (fun (α : Unit) (y : Int) => ()) (fun α y => [.obj true blk1 off1 (.dat (Rep.int .i64)) y]) := by
  refine fun_okI Try.func62 rfl Try.ntmps62 rfl (all_cons rfl (all_cons rfl all_nil)) (fun w0 ok0 M => ?_)
  refine den_seq ?_
  refine den_region rfl ?_
  refine o_box rfl rfl (look_tmp rfl) rfl (fun z1 => ?_)
  refine o_end ?_
  refine den_region rfl ?_
  refine o_oloadi 1 rfl type3 foc_self rfl guard_none (look_tmp rfl) (fun _ => rfl) ?_
  refine o_add rfl rfl guard_none (look_tmp rfl) (look_int rfl) (fun _ => rfl) (fun _ => rfl) ?_
  refine o_weak (H' := [.obj true blk1 off1 (.dat (Rep.int .i64)) a_1, .obj true z1 0 (.dat T_api_Expr_rep) a_0]) (sub_pick [1, 0] rfl rfl) ?_
  refine o_ostore type3 foc_self guard_none (look_tmp rfl) (fun _ => rfl) (look_tmp rfl) (fun _ => rfl) ?_
  refine o_end ?_
  exact den_fallI () (res0 rfl ) (fun _ _ _ k => ato_pick [0] rfl rfl k)

theorem bound_each_v0_rec_ok (fuel : Nat) (rec_bound_each_v0 : T_api_Expr → Int → Option Int) (hrec_bound_each_v0 : ∀ (blk1_0 : Nat) (off1_0 : Nat) (e_0 : T_api_Expr) (c_1_0 : Int), FunOkI Try.prog 61 [⟨T_api_Expr_rep, e_0, true⟩, ⟨(Rep.clo 62 [⟨.addr, (blk1_0, off1_0), true⟩]), (), true⟩] [.obj true blk1_0 off1_0 (.dat (Rep.int .i64)) c_1_0] (rec_bound_each_v0 e_0 c_1_0) (Rep.unit) (fun (α : Unit) (y : Int) => ()) (fun α y => [.obj true blk1_0 off1_0 (.dat (Rep.int .i64)) y])) (blk1_0 : Nat) (off1_0 : Nat) (e_0 : T_api_Expr) (c_1_0 : Int) : FunOkI Try.prog 61 [⟨T_api_Expr_rep, e_0, true⟩, ⟨(Rep.clo 62 [⟨.addr, (blk1_0, off1_0), true⟩]), (), true⟩] [.obj true blk1_0 off1_0 (.dat (Rep.int .i64)) c_1_0] (bound_each_v0_rec fuel rec_bound_each_v0 e_0 c_1_0) (Rep.unit) (fun (α : Unit) (y : Int) => ()) (fun α y => [.obj true blk1_0 off1_0 (.dat (Rep.int .i64)) y]) := by
  refine fun_okI Try.func61 rfl Try.ntmps61 rfl (all_cons rfl (all_cons rfl all_nil)) (fun w0 ok0 M => ?_)
  refine den_seq ?_
  refine den_region rfl ?_
  refine o_box rfl rfl (look_tmp rfl) rfl (fun z1 => ?_)
  refine o_end ?_
  refine den_seq ?_
  refine den_seq ?_
  refine den_region rfl ?_
  refine o_faddr field83_0 type3 (by decide) rfl rfl guard_none (look_tmp rfl) (fun _ => rfl) ?_
  refine o_oloadi 0 rfl type3 T_api_Expr_foc0 rfl guard_none (look_tmp rfl) (fun _ => rfl) ?_
  refine o_end ?_
  refine den_both (fun z2 => [(1, ⟨(Rep.clo 62 [⟨.addr, (blk1_0, off1_0), true⟩]), (), true⟩), (2, ⟨Rep.addr, (z1, 0), true⟩)]) (fun z2 => [.obj true z1 0 (.dat T_api_Expr_rep) e_0, .obj true blk1_0 off1_0 (.dat (Rep.int .i64)) z2]) ?_ (fun z2 => ?_)
  · refine den_block ?_
    refine den_seq ?_
    refine den_region rfl ?_
    refine o_eql rfl rfl guard_none (look_tmp rfl) (look_int rfl) (fun _ => rfl) (fun _ => rfl) ?_
    refine o_assign rfl rfl guard_none (look_tmp rfl) (fun _ => rfl) ?_
    refine o_end ?_
    refine den_cond (look_tmp rfl) ?_ ?_
    · refine den_code_ret ?_
      refine dene_ret ?_
      refine dene_both (by simp) ?_
      refine dene_ret ?_
      exact dene_resI () (res0 rfl ) (fun _ _ _ k => ato_pick [1] rfl rfl k)
    · refine den_seq ?_
      refine den_seq ?_
      refine den_region rfl ?_
      refine o_eql rfl rfl guard_none (look_tmp rfl) (look_int rfl) (fun _ => rfl) (fun _ => rfl) ?_
      refine o_assign rfl rfl guard_none (look_tmp rfl) (fun _ => rfl) ?_
      refine o_end ?_
      refine den_cond (look_tmp rfl) ?_ ?_
      · refine den_skip ?_
        refine den_cond (look_tmp rfl) ?_ ?_
        · refine den_region rfl ?_
          refine o_move rfl rfl guard_none (look_tmp rfl) (fun _ => rfl) ?_
          refine o_oloadi 0 rfl type83 foc_self rfl guard_none (look_tmp rfl) (fun _ => rfl) ?_
          refine o_weak (H' := [.obj true blk1_0 off1_0 (.dat (Rep.int .i64)) c_1_0] ++ ([] ++ [.obj true z1 0 (.dat T_api_Expr_rep) e_0])) (sub_pick [1, 0] rfl rfl) ?_
          refine o_callUE (enters_clo rfl (look_tmp rfl) (fun _ => rfl) rfl callable62 (looks_cons (look_tmp rfl) (fun _ => rfl) (looks_nil))) rfl rfl rfl .nil (bound_Cells_1_v0_ok _ _ e_0 c_1_0) (fun _ _ => (wr_c wr_n)) (fun z10α z9 => ?_)
          refine o_weak (H' := [.obj true blk1_0 off1_0 (.dat (Rep.int .i64)) z9, .obj true z1 0 (.dat T_api_Expr_rep) e_0]) (sub_pick [0, 1] rfl rfl) ?_
          refine o_end ?_
          refine den_blkend ?_
          refine den_endl ((Sub.trans (sub_pick [1, 0] rfl rfl) (sub_env (sube_cons rfl (sube_cons rfl (sube_nil))))))
        · refine den_skip ?_
          refine den_blkend ?_
          refine den_endl ((sub_env (sube_cons rfl (sube_cons rfl (sube_nil)))))
      · refine den_seq ?_
        refine den_region rfl ?_
        refine o_eql rfl rfl guard_none (look_tmp rfl) (look_int rfl) (fun _ => rfl) (fun _ => rfl) ?_
        refine o_assign rfl rfl guard_none (look_tmp rfl) (fun _ => rfl) ?_
        refine o_end ?_
        refine den_cond (look_tmp rfl) ?_ ?_
        · refine den_skip ?_
          refine den_cond (look_tmp rfl) ?_ ?_
          · refine den_region rfl ?_
            refine o_move rfl rfl guard_none (look_tmp rfl) (fun _ => rfl) ?_
            refine o_oloadi 0 rfl type83 foc_self rfl guard_none (look_tmp rfl) (fun _ => rfl) ?_
            refine o_weak (H' := [.obj true blk1_0 off1_0 (.dat (Rep.int .i64)) c_1_0] ++ ([] ++ [.obj true z1 0 (.dat T_api_Expr_rep) e_0])) (sub_pick [1, 0] rfl rfl) ?_
            refine o_callUE (enters_clo rfl (look_tmp rfl) (fun _ => rfl) rfl callable62 (looks_cons (look_tmp rfl) (fun _ => rfl) (looks_nil))) rfl rfl rfl .nil (bound_Cells_1_v0_ok _ _ e_0 c_1_0) (fun _ _ => (wr_c wr_n)) (fun z12α z11 => ?_)
            refine o_weak (H' := [.obj true blk1_0 off1_0 (.dat (Rep.int .i64)) z11, .obj true z1 0 (.dat T_api_Expr_rep) e_0]) (sub_pick [0, 1] rfl rfl) ?_
            refine o_end ?_
            refine den_blkend ?_
            refine den_endl ((Sub.trans (sub_pick [1, 0] rfl rfl) (sub_env (sube_cons rfl (sube_cons rfl (sube_nil))))))
          · refine den_skip ?_
            refine den_blkend ?_
            refine den_endl ((sub_env (sube_cons rfl (sube_cons rfl (sube_nil)))))
        · refine den_seq ?_
          refine den_region rfl ?_
          refine o_eql rfl rfl guard_none (look_tmp rfl) (look_int rfl) (fun _ => rfl) (fun _ => rfl) ?_
          refine o_assign rfl rfl guard_none (look_tmp rfl) (fun _ => rfl) ?_
          refine o_end ?_
          refine den_cond (look_tmp rfl) ?_ ?_
          · refine den_skip ?_
            refine den_cond (look_tmp rfl) ?_ ?_
            · refine den_region rfl ?_
              refine o_move rfl rfl guard_none (look_tmp rfl) (fun _ => rfl) ?_
              refine o_oloadi 0 rfl type83 foc_self rfl guard_none (look_tmp rfl) (fun _ => rfl) ?_
              refine o_weak (H' := [.obj true blk1_0 off1_0 (.dat (Rep.int .i64)) c_1_0] ++ ([] ++ [.obj true z1 0 (.dat T_api_Expr_rep) e_0])) (sub_pick [1, 0] rfl rfl) ?_
              refine o_callUE (enters_clo rfl (look_tmp rfl) (fun _ => rfl) rfl callable62 (looks_cons (look_tmp rfl) (fun _ => rfl) (looks_nil))) rfl rfl rfl .nil (bound_Cells_1_v0_ok _ _ e_0 c_1_0) (fun _ _ => (wr_c wr_n)) (fun z14α z13 => ?_)
              refine o_weak (H' := [.obj true blk1_0 off1_0 (.dat (Rep.int .i64)) z13, .obj true z1 0 (.dat T_api_Expr_rep) e_0]) (sub_pick [0, 1] rfl rfl) ?_
              refine o_end ?_
              refine den_blkend ?_
              refine den_endl ((Sub.trans (sub_pick [1, 0] rfl rfl) (sub_env (sube_cons rfl (sube_cons rfl (sube_nil))))))
            · refine den_skip ?_
              refine den_blkend ?_
              refine den_endl ((sub_env (sube_cons rfl (sube_cons rfl (sube_nil)))))
          · refine den_seq ?_
            refine den_region rfl ?_
            refine o_eql rfl rfl guard_none (look_tmp rfl) (look_int rfl) (fun _ => rfl) (fun _ => rfl) ?_
            refine o_assign rfl rfl guard_none (look_tmp rfl) (fun _ => rfl) ?_
            refine o_end ?_
            refine den_cond (look_tmp rfl) ?_ ?_
            · refine den_skip ?_
              refine den_cond (look_tmp rfl) ?_ ?_
              · refine den_region rfl ?_
                refine o_move rfl rfl guard_none (look_tmp rfl) (fun _ => rfl) ?_
                refine o_oloadi 0 rfl type83 foc_self rfl guard_none (look_tmp rfl) (fun _ => rfl) ?_
                refine o_weak (H' := [.obj true blk1_0 off1_0 (.dat (Rep.int .i64)) c_1_0] ++ ([] ++ [.obj true z1 0 (.dat T_api_Expr_rep) e_0])) (sub_pick [1, 0] rfl rfl) ?_
                refine o_callUE (enters_clo rfl (look_tmp rfl) (fun _ => rfl) rfl callable62 (looks_cons (look_tmp rfl) (fun _ => rfl) (looks_nil))) rfl rfl rfl .nil (bound_Cells_1_v0_ok _ _ e_0 c_1_0) (fun _ _ => (wr_c wr_n)) (fun z16α z15 => ?_)
                refine o_weak (H' := [.obj true blk1_0 off1_0 (.dat (Rep.int .i64)) z15, .obj true z1 0 (.dat T_api_Expr_rep) e_0]) (sub_pick [0, 1] rfl rfl) ?_
                refine o_end ?_
                refine den_blkend ?_
                refine den_endl ((Sub.trans (sub_pick [1, 0] rfl rfl) (sub_env (sube_cons rfl (sube_cons rfl (sube_nil))))))
              · refine den_skip ?_
                refine den_blkend ?_
                refine den_endl ((sub_env (sube_cons rfl (sube_cons rfl (sube_nil)))))
            · refine den_region rfl ?_
              refine o_eql rfl rfl guard_none (look_tmp rfl) (look_int rfl) (fun _ => rfl) (fun _ => rfl) ?_
              refine o_assign rfl rfl guard_none (look_tmp rfl) (fun _ => rfl) ?_
              refine o_end ?_
              refine den_cond (look_tmp rfl) ?_ ?_
              · refine den_region rfl ?_
                refine o_move rfl rfl guard_none (look_tmp rfl) (fun _ => rfl) ?_
                refine o_oloadi 0 rfl type83 foc_self rfl guard_none (look_tmp rfl) (fun _ => rfl) ?_
                refine o_weak (H' := [.obj true blk1_0 off1_0 (.dat (Rep.int .i64)) c_1_0] ++ ([] ++ [.obj true z1 0 (.dat T_api_Expr_rep) e_0])) (sub_pick [1, 0] rfl rfl) ?_
                refine o_callUE (enters_clo rfl (look_tmp rfl) (fun _ => rfl) rfl callable62 (looks_cons (look_tmp rfl) (fun _ => rfl) (looks_nil))) rfl rfl rfl .nil (bound_Cells_1_v0_ok _ _ e_0 c_1_0) (fun _ _ => (wr_c wr_n)) (fun z18α z17 => ?_)
                refine o_weak (H' := [.obj true blk1_0 off1_0 (.dat (Rep.int .i64)) z17, .obj true z1 0 (.dat T_api_Expr_rep) e_0]) (sub_pick [0, 1] rfl rfl) ?_
                refine o_end ?_
                refine den_blkend ?_
                refine den_endl ((Sub.trans (sub_pick [1, 0] rfl rfl) (sub_env (sube_cons rfl (sube_cons rfl (sube_nil))))))
              · refine den_skip ?_
                refine den_blkend ?_
                refine den_endl ((sub_env (sube_cons rfl (sube_cons rfl (sube_nil)))))
  refine den_seq ?_
  refine den_region rfl ?_
  refine o_faddr field83_5 type81 (by decide) rfl rfl guard_none (look_tmp rfl) (fun _ => rfl) ?_
  refine o_oloadi 0 rfl type81 T_api_Expr_foc5 rfl guard_none (look_tmp rfl) (fun _ => rfl) ?_
  refine o_llen Try.underlying81 rfl rfl guard_none (look_tmp rfl) (fun _ => rfl) ?_
  refine o_move rfl rfl guard_none (look_int rfl) (fun _ => rfl) ?_
  refine o_end ?_
  refine den_bind (fun z3 => []) (fun z3 => [.obj true blk1_0 off1_0 (.dat (Rep.int .i64)) z3]) ?_ (fun z3 => ?_)
  · refine den_block ?_
    refine den_loop (bound_each_v0_L1b rec_bound_each_v0 e_0) (fun z4 => [(22, ⟨Rep.int .i64, z4.1, true⟩), (1, ⟨(Rep.clo 62 [⟨.addr, (blk1_0, off1_0), true⟩]), (), true⟩), (20, ⟨(T_api_Expr_rep).slice, e_0.Kids, true⟩), (21, ⟨Rep.int .i64, (e_0.Kids.length : Int), true⟩)]) (fun z4 => [.obj true blk1_0 off1_0 (.dat (Rep.int .i64)) z4.2]) (0, z2) (fun z4 => ?_) ((Sub.trans (sub_pick [1] rfl rfl) (sub_env (sube_cons rfl (sube_cons rfl (sube_cons rfl (sube_cons rfl (sube_nil))))))))
    refine den_seq ?_
    refine den_region rfl ?_
    refine o_lss rfl rfl guard_none (look_tmp rfl) (look_tmp rfl) (fun _ => rfl) (fun _ => rfl) ?_
    refine o_end ?_
    refine den_seq ?_
    refine den_cond (look_tmp rfl) ?_ ?_
    · refine den_skip ?_
      refine den_seq ?_
      refine den_block ?_
      refine den_seq ?_
      refine den_region rfl ?_
      refine o_iaddr Try.underlying81 type83 rfl rfl (look_tmp rfl) (look_tmp rfl) rfl rfl (fun z5 => ?_)
      refine o_load type83 rfl rfl guard_none (look_tmp rfl) (fun _ => rfl) ?_
      refine o_alloc zero83 rfl rfl (fun z6 => ?_)
      refine o_ostore type83 foc_self guard_none (look_tmp rfl) (fun _ => rfl) (look_tmp rfl) (fun _ => rfl) ?_
      refine o_end ?_
      refine den_region rfl ?_
      refine o_oloadi 0 rfl type83 foc_self rfl guard_none (look_tmp rfl) (fun _ => rfl) ?_
      refine o_move rfl rfl guard_none (look_tmp rfl) (fun _ => rfl) ?_
      refine o_weak (H' := [.obj true blk1_0 off1_0 (.dat (Rep.int .i64)) z4.2] ++ ([] ++ [.obj true z6 0 (.dat T_api_Expr_rep) z5])) (sub_pick [1, 0] rfl rfl) ?_
      refine o_callU rfl rfl rfl rfl rfl callable61 (looks_cons (look_tmp rfl) (fun _ => rfl) (looks_cons (look_tmp rfl) (fun _ => rfl) (looks_nil))) .nil (hrec_bound_each_v0 _ _ z5 z4.2) (fun _ _ => (wr_c wr_n)) (fun z8α z7 => ?_)
      refine o_weak (H' := [.obj true blk1_0 off1_0 (.dat (Rep.int .i64)) z7, .obj true z6 0 (.dat T_api_Expr_rep) z5]) (sub_pick [0, 1] rfl rfl) ?_
      refine o_end ?_
      refine den_blkend ?_
      refine den_region rfl ?_
      refine o_add rfl rfl guard_none (look_tmp rfl) (look_int rfl) (fun _ => rfl) (fun _ => rfl) ?_
      refine o_move rfl rfl guard_none (look_tmp rfl) (fun _ => rfl) ?_
      refine o_end ?_
      refine den_next ((Sub.trans (sub_pick [0] rfl rfl) (sub_env (sube_cons rfl (sube_cons rfl (sube_cons rfl (sube_cons rfl (sube_nil))))))))
    · refine den_code_exit ?_
      refine dene_out rfl ?_
      refine dene_loop (by simp) ?_
      refine dene_to rfl ?_
      refine den_end ((sub_env (sube_nil)))
  exact den_fallI () (res0 rfl ) (fun _ _ _ k => ato_pick [0] rfl rfl k)

theorem bound_each_v0_ok (N n : Nat) : ∀ (blk1_0 : Nat) (off1_0 : Nat) (e_0 : T_api_Expr) (c_1_0 : Int), FunOkI Try.prog 61 [⟨T_api_Expr_rep, e_0, true⟩, ⟨(Rep.clo 62 [⟨.addr, (blk1_0, off1_0), true⟩]), (), true⟩] [.obj true blk1_0 off1_0 (.dat (Rep.int .i64)) c_1_0] (bound_each_v0 N n e_0 c_1_0) (Rep.unit) (fun (α : Unit) (y : Int) => ()) (fun α y => [.obj true blk1_0 off1_0 (.dat (Rep.int .i64)) y]) := by
  induction n with
  | zero => intros; exact fun_noneI
  | succ n ih => exact bound_each_v0_rec_ok N _ ih

theorem bound_Cells_ok (fuel : Nat)  (e_0 : T_api_Expr) : FunOk Try.prog 43 [⟨T_api_Expr_rep, e_0, true⟩] (bound_Cells fuel e_0) (Rep.int .i64) := by
  refine fun_ok Try.func43 rfl Try.ntmps43 rfl (all_cons rfl all_nil) (fun w0 ok0 => ?_)
  refine den_seq ?_
  refine den_region rfl ?_
  refine o_box rfl rfl (look_tmp rfl) rfl (fun z1 => ?_)
  refine o_assign rfl rfl guard_none (look_int rfl) (fun _ => rfl) ?_
  refine o_end ?_
  refine den_seq ?_
  refine den_region rfl ?_
  refine o_alloc zero3 rfl rfl (fun z2 => ?_)
  refine o_ostore type3 foc_self guard_none (look_tmp rfl) (fun _ => rfl) (look_int rfl) (fun _ => rfl) ?_
  refine o_end ?_
  refine den_seq ?_
  refine den_region rfl ?_
  refine o_oloadi 1 rfl type83 foc_self rfl guard_none (look_tmp rfl) (fun _ => rfl) ?_
  refine o_mkfunc rfl rfl guard_none (looks_cons (look_tmp rfl) (fun _ => rfl) (looks_nil)) ?_
  refine o_weak (H' := [.obj true z2 0 (.dat (Rep.int .i64)) 0] ++ ([] ++ [.obj true z1 0 (.dat T_api_Expr_rep) e_0])) (sub_pick [0, 1] rfl rfl) ?_
  refine o_callU rfl rfl rfl rfl rfl callable61 (looks_cons (look_tmp rfl) (fun _ => rfl) (looks_cons (look_tmp rfl) (fun _ => rfl) (looks_nil))) .nil (bound_each_v0_ok fuel fuel _ _ e_0 0) (fun _ _ => (wr_c wr_n)) (fun z4α z3 => ?_)
  refine o_weak (H' := [.obj true z2 0 (.dat (Rep.int .i64)) z3, .obj true z1 0 (.dat T_api_Expr_rep) e_0]) (sub_pick [0, 1] rfl rfl) ?_
  refine o_end ?_
  refine den_seq ?_
  refine den_region rfl ?_
  refine o_oloadi 0 rfl type3 foc_self rfl guard_none (look_tmp rfl) (fun _ => rfl) ?_
  refine o_assign rfl rfl guard_none (look_tmp rfl) (fun _ => rfl) ?_
  refine o_end ?_
  refine den_code_ret ?_
  exact dene_res (res1 rfl (rv_tmp rfl))

theorem bound_Longest_1_v0_ok (blk1 : Nat) (off1 : Nat) (k_0 : T_api_Expr) (a_1 : Int) : FunOkI Try.prog 67 [⟨T_api_Expr_rep, k_0, true⟩, ⟨.addr, (blk1, off1), true⟩] [.obj true blk1 off1 (.dat (Rep.int .i64)) a_1] (bound_Longest_1_v0 k_0 a_1) (Rep.unit) (fun (α : Unit) (y : Int) => ()) (fun α y => [.obj true blk1 off1 (.dat (Rep.int .i64)) y]) := by
  refine fun_okI Try.func67 rfl Try.ntmps67 rfl (all_cons rfl (all_cons rfl all_nil)) (fun w0 ok0 M => ?_)
  refine den_seq ?_
  refine den_region rfl ?_
  refine o_box rfl rfl (look_tmp rfl) rfl (fun z1 => ?_)
  refine o_end ?_
  refine den_region rfl ?_
  refine o_oloadi 1 rfl type2 foc_self rfl guard_none (look_tmp rfl) (fun _ => rfl) ?_
  refine o_faddr field83_4 type2 (by decide) rfl rfl guard_none (look_tmp rfl) (fun _ => rfl) ?_
  refine o_oloadi 0 rfl type2 T_api_Expr_foc4 rfl guard_none (look_tmp rfl) (fun _ => rfl) ?_
  refine o_max2 rfl rfl guard_none (look_tmp rfl) (look_tmp rfl) (fun _ => rfl) (fun _ => rfl) ?_
  refine o_weak (H' := [.obj true blk1 off1 (.dat (Rep.int .i64)) a_1, .obj true z1 0 (.dat T_api_Expr_rep) k_0]) (sub_pick [1, 0] rfl rfl) ?_
  refine o_ostore type2 foc_self guard_none (look_tmp rfl) (fun _ => rfl) (look_tmp rfl) (fun _ => rfl) ?_
  refine o_end ?_
  exact den_fallI () (res0 rfl ) (fun _ _ _ k => ato_pick [0] rfl rfl k)

theorem bound_each_v1_rec_ok (fuel : Nat) (rec_bound_each_v1 : T_api_Expr → Int → Option Int) (hrec_bound_each_v1 : ∀ (blk1_0 : Nat) (off1_0 : Nat) (e_0 : T_api_Expr) (c_1_0 : Int), FunOkI Try.prog 61 [⟨T_api_Expr_rep, e_0, true⟩, ⟨(Rep.clo 67 [⟨.addr, (blk1_0, off1_0), true⟩]), (), true⟩] [.obj true blk1_0 off1_0 (.dat (Rep.int .i64)) c_1_0] (rec_bound_each_v1 e_0 c_1_0) (Rep.unit) (fun (α : Unit) (y : Int) => ()) (fun α y => [.obj true blk1_0 off1_0 (.dat (Rep.int .i64)) y])) (blk1_0 : Nat) (off1_0 : Nat) (e_0 : T_api_Expr) (c_1_0 : Int) : FunOkI Try.prog 61 [⟨T_api_Expr_rep, e_0, true⟩, ⟨(Rep.clo 67 [⟨.addr, (blk1_0, off1_0), true⟩]), (), true⟩] [.obj true blk1_0 off1_0 (.dat (Rep.int .i64)) c_1_0] (bound_each_v1_rec fuel rec_bound_each_v1 e_0 c_1_0) (Rep.unit) (fun (α : Unit) (y : Int) => ()) (fun α y => [.obj true blk1_0 off1_0 (.dat (Rep.int .i64)) y]) := by
  refine fun_okI Try.func61 rfl Try.ntmps61 rfl (all_cons rfl (all_cons rfl all_nil)) (fun w0 ok0 M => ?_)
  refine den_seq ?_
  refine den_region rfl ?_
  refine o_box rfl rfl (look_tmp rfl) rfl (fun z1 => ?_)
  refine o_end ?_
  refine den_seq ?_
  refine den_seq ?_
  refine den_region rfl ?_
  refine o_faddr field83_0 type3 (by decide) rfl rfl guard_none (look_tmp rfl) (fun _ => rfl) ?_
  refine o_oloadi 0 rfl type3 T_api_Expr_foc0 rfl guard_none (look_tmp rfl) (fun _ => rfl) ?_
  refine o_end ?_
  refine den_both (fun z2 => [(1, ⟨(Rep.clo 67 [⟨.addr, (blk1_0, off1_0), true⟩]), (), true⟩), (2, ⟨Rep.addr, (z1, 0), true⟩)]) (fun z2 => [.obj true z1 0 (.dat T_api_Expr_rep) e_0, .obj true blk1_0 off1_0 (.dat (Rep.int .i64)) z2]) ?_ (fun z2 => ?_)
  · refine den_block ?_
    refine den_seq ?_
    refine den_region rfl ?_
    refine o_eql rfl rfl guard_none (look_tmp rfl) (look_int rfl) (fun _ => rfl) (fun _ => rfl) ?_
    refine o_assign rfl rfl guard_none (look_tmp rfl) (fun _ => rfl) ?_
    refine o_end ?_
    refine den_cond (look_tmp rfl) ?_ ?_
    · refine den_code_ret ?_
      refine dene_ret ?_
      refine dene_both (by simp) ?_
      refine dene_ret ?_
      exact dene_resI () (res0 rfl ) (fun _ _ _ k => ato_pick [1] rfl rfl k)
    · refine den_seq ?_
      refine den_seq ?_
      refine den_region rfl ?_
      refine o_eql rfl rfl guard_none (look_tmp rfl) (look_int rfl) (fun _ => rfl) (fun _ => rfl) ?_
      refine o_assign rfl rfl guard_none (look_tmp rfl) (fun _ => rfl) ?_
      refine o_end ?_
      refine den_cond (look_tmp rfl) ?_ ?_
      · refine den_skip ?_
        refine den_cond (look_tmp rfl) ?_ ?_
        · refine den_region rfl ?_
          refine o_move rfl rfl guard_none (look_tmp rfl) (fun _ => rfl) ?_
          refine o_oloadi 0 rfl type83 foc_self rfl guard_none (look_tmp rfl) (fun _ => rfl) ?_
          refine o_weak (H' := [.obj true blk1_0 off1_0 (.dat (Rep.int .i64)) c_1_0] ++ ([] ++ [.obj true z1 0 (.dat T_api_Expr_rep) e_0])) (sub_pick [1, 0] rfl rfl) ?_
          refine o_callUE (enters_clo rfl (look_tmp rfl) (fun _ => rfl) rfl callable67 (looks_cons (look_tmp rfl) (fun _ => rfl) (looks_nil))) rfl rfl rfl .nil (bound_Longest_1_v0_ok _ _ e_0 c_1_0) (fun _ _ => (wr_c wr_n)) (fun z10α z9 => ?_)
          refine o_weak (H' := [.obj true blk1_0 off1_0 (.dat (Rep.int .i64)) z9, .obj true z1 0 (.dat T_api_Expr_rep) e_0]) (sub_pick [0, 1] rfl rfl) ?_
          refine o_end ?_
          refine den_blkend ?_
          refine den_endl ((Sub.trans (sub_pick [1, 0] rfl rfl) (sub_env (sube_cons rfl (sube_cons rfl (sube_nil))))))
        · refine den_skip ?_
          refine den_blkend ?_
          refine den_endl ((sub_env (sube_cons rfl (sube_cons rfl (sube_nil)))))
      · refine den_seq ?_
        refine den_region rfl ?_
        refine o_eql rfl rfl guard_none (look_tmp rfl) (look_int rfl) (fun _ => rfl) (fun _ => rfl) ?_
        refine o_assign rfl rfl guard_none (look_tmp rfl) (fun _ => rfl) ?_
        refine o_end ?_
        refine den_cond (look_tmp rfl) ?_ ?_
        · refine den_skip ?_
          refine den_cond (look_tmp rfl) ?_ ?_
          · refine den_region rfl ?_
            refine o_move rfl rfl guard_none (look_tmp rfl) (fun _ => rfl) ?_
            refine o_oloadi 0 rfl type83 foc_self rfl guard_none (look_tmp rfl) (fun _ => rfl) ?_
            refine o_weak (H' := [.obj true blk1_0 off1_0 (.dat (Rep.int .i64)) c_1_0] ++ ([] ++ [.obj true z1 0 (.dat T_api_Expr_rep) e_0])) (sub_pick [1, 0] rfl rfl) ?_
            refine o_callUE (enters_clo rfl (look_tmp rfl) (fun _ => rfl) rfl callable67 (looks_cons (look_tmp rfl) (fun _ => rfl) (looks_nil))) rfl rfl rfl .nil (bound_Longest_1_v0_ok _ _ e_0 c_1_0) (fun _ _ => (wr_c wr_n)) (fun z12α z11 => ?_)
            refine o_weak (H' := [.obj true blk1_0 off1_0 (.dat (Rep.int .i64)) z11, .obj true z1 0 (.dat T_api_Expr_rep) e_0]) (sub_pick [0, 1] rfl rfl) ?_
            refine o_end ?_
            refine den_blkend ?_
            refine den_endl ((Sub.trans (sub_pick [1, 0] rfl rfl) (sub_env (sube_cons rfl (sube_cons rfl (sube_nil))))))
          · refine den_skip ?_
            refine den_blkend ?_
            refine den_endl ((sub_env (sube_cons rfl (sube_cons rfl (sube_nil)))))
        · refine den_seq ?_
          refine den_region rfl ?_
          refine o_eql rfl rfl guard_none (look_tmp rfl) (look_int rfl) (fun _ => rfl) (fun _ => rfl) ?_
          refine o_assign rfl rfl guard_none (look_tmp rfl) (fun _ => rfl) ?_
          refine o_end ?_
          refine den_cond (look_tmp rfl) ?_ ?_
          · refine den_skip ?_
            refine den_cond (look_tmp rfl) ?_ ?_
            · refine den_region rfl ?_
              refine o_move rfl rfl guard_none (look_tmp rfl) (fun _ => rfl) ?_
              refine o_oloadi 0 rfl type83 foc_self rfl guard_none (look_tmp rfl) (fun _ => rfl) ?_
              refine o_weak (H' := [.obj true blk1_0 off1_0 (.dat (Rep.int .i64)) c_1_0] ++ ([] ++ [.obj true z1 0 (.dat T_api_Expr_rep) e_0])) (sub_pick [1, 0] rfl rfl) ?_
              refine o_callUE (enters_clo rfl (look_tmp rfl) (fun _ => rfl) rfl callable67 (looks_cons (look_tmp rfl) (fun _ => rfl) (looks_nil))) rfl rfl rfl .nil (bound_Longest_1_v0_ok _ _ e_0 c_1_0) (fun _ _ => (wr_c wr_n)) (fun z14α z13 => ?_)
              refine o_weak (H' := [.obj true blk1_0 off1_0 (.dat (Rep.int .i64)) z13, .obj true z1 0 (.dat T_api_Expr_rep) e_0]) (sub_pick [0, 1] rfl rfl) ?_
              refine o_end ?_
              refine den_blkend ?_
              refine den_endl ((Sub.trans (sub_pick [1, 0] rfl rfl) (sub_env (sube_cons rfl (sube_cons rfl (sube_nil))))))
            · refine den_skip ?_
              refine den_blkend ?_
              refine den_endl ((sub_env (sube_cons rfl (sube_cons rfl (sube_nil)))))
          · refine den_seq ?_
            refine den_region rfl ?_
            refine o_eql rfl rfl guard_none (look_tmp rfl) (look_int rfl) (fun _ => rfl) (fun _ => rfl) ?_
            refine o_assign rfl rfl guard_none (look_tmp rfl) (fun _ => rfl) ?_
            refine o_end ?_
            refine den_cond (look_tmp rfl) ?_ ?_
            · refine den_skip ?_
              refine den_cond (look_tmp rfl) ?_ ?_
              · refine den_region rfl ?_
                refine o_move rfl rfl guard_none (look_tmp rfl) (fun _ => rfl) ?_
                refine o_oloadi 0 rfl type83 foc_self rfl guard_none (look_tmp rfl) (fun _ => rfl) ?_
                refine o_weak (H' := [.obj true blk1_0 off1_0 (.dat (Rep.int .i64)) c_1_0] ++ ([] ++ [.obj true z1 0 (.dat T_api_Expr_rep) e_0])) (sub_pick [1, 0] rfl rfl) ?_
                refine o_callUE (enters_clo rfl (look_tmp rfl) (fun _ => rfl) rfl callable67 (looks_cons (look_tmp rfl) (fun _ => rfl) (looks_nil))) rfl rfl rfl .nil (bound_Longest_1_v0_ok _ _ e_0 c_1_0) (fun _ _ => (wr_c wr_n)) (fun z16α z15 => ?_)
                refine o_weak (H' := [.obj true blk1_0 off1_0 (.dat (Rep.int .i64)) z15, .obj true z1 0 (.dat T_api_Expr_rep) e_0]) (sub_pick [0, 1] rfl rfl) ?_
                refine o_end ?_
                refine den_blkend ?_
                refine den_endl ((Sub.trans (sub_pick [1, 0] rfl rfl) (sub_env (sube_cons rfl (sube_cons rfl (sube_nil))))))
              · refine den_skip ?_
                refine den_blkend ?_
                refine den_endl ((sub_env (sube_cons rfl (sube_cons rfl (sube_nil)))))
            · refine den_region rfl ?_
              refine o_eql rfl rfl guard_none (look_tmp rfl) (look_int rfl) (fun _ => rfl) (fun _ => rfl) ?_
              refine o_assign rfl rfl guard_none (look_tmp rfl) (fun _ => rfl) ?_
              refine o_end ?_
              refine den_cond (look_tmp rfl) ?_ ?_
              · refine den_region rfl ?_
                refine o_move rfl rfl guard_none (look_tmp rfl) (fun _ => rfl) ?_
                refine o_oloadi 0 rfl type83 foc_self rfl guard_none (look_tmp rfl) (fun _ => rfl) ?_
                refine o_weak (H' := [.obj true blk1_0 off1_0 (.dat (Rep.int .i64)) c_1_0] ++ ([] ++ [.obj true z1 0 (.dat T_api_Expr_rep) e_0])) (sub_pick [1, 0] rfl rfl) ?_
                refine o_callUE (enters_clo rfl (look_tmp rfl) (fun _ => rfl) rfl callable67 (looks_cons (look_tmp rfl) (fun _ => rfl) (looks_nil))) rfl rfl rfl .nil (bound_Longest_1_v0_ok _ _ e_0 c_1_0) (fun _ _ => (wr_c wr_n)) (fun z18α z17 => ?_)
                refine o_weak (H' := [.obj true blk1_0 off1_0 (.dat (Rep.int .i64)) z17, .obj true z1 0 (.dat T_api_Expr_rep) e_0]) (sub_pick [0, 1] rfl rfl) ?_
                refine o_end ?_
                refine den_blkend ?_
                refine den_endl ((Sub.trans (sub_pick [1, 0] rfl rfl) (sub_env (sube_cons rfl (sube_cons rfl (sube_nil))))))
              · refine den_skip ?_
                refine den_blkend ?_
                refine den_endl ((sub_env (sube_cons rfl (sube_cons rfl (sube_nil)))))
  refine den_seq ?_
  refine den_region rfl ?_
  refine o_faddr field83_5 type81 (by decide) rfl rfl guard_none (look_tmp rfl) (fun _ => rfl) ?_
  refine o_oloadi 0 rfl type81 T_api_Expr_foc5 rfl guard_none (look_tmp rfl) (fun _ => rfl) ?_
  refine o_llen Try.underlying81 rfl rfl guard_none (look_tmp rfl) (fun _ => rfl) ?_
  refine o_move rfl rfl guard_none (look_int rfl) (fun _ => rfl) ?_
  refine o_end ?_
  refine den_bind (fun z3 => []) (fun z3 => [.obj true blk1_0 off1_0 (.dat (Rep.int .i64)) z3]) ?_ (fun z3 => ?_)
  · refine den_block ?_
    refine den_loop (bound_each_v1_L1b rec_bound_each_v1 e_0) (fun z4 => [(22, ⟨Rep.int .i64, z4.1, true⟩), (1, ⟨(Rep.clo 67 [⟨.addr, (blk1_0, off1_0), true⟩]), (), true⟩), (20, ⟨(T_api_Expr_rep).slice, e_0.Kids, true⟩), (21, ⟨Rep.int .i64, (e_0.Kids.length : Int), true⟩)]) (fun z4 => [.obj true blk1_0 off1_0 (.dat (Rep.int .i64)) z4.2]) (0, z2) (fun z4 => ?_) ((Sub.trans (sub_pick [1] rfl rfl) (sub_env (sube_cons rfl (sube_cons rfl (sube_cons rfl (sube_cons rfl (sube_nil))))))))
    refine den_seq ?_
    refine den_region rfl ?_
    refine o_lss rfl rfl guard_none (look_tmp rfl) (look_tmp rfl) (fun _ => rfl) (fun _ => rfl) ?_
    refine o_end ?_
    refine den_seq ?_
    refine den_cond (look_tmp rfl) ?_ ?_
    · refine den_skip ?_
      refine den_seq ?_
      refine den_block ?_
      refine den_seq ?_
      refine den_region rfl ?_
      refine o_iaddr Try.underlying81 type83 rfl rfl (look_tmp rfl) (look_tmp rfl) rfl rfl (fun z5 => ?_)
      refine o_load type83 rfl rfl guard_none (look_tmp rfl) (fun _ => rfl) ?_
      refine o_alloc zero83 rfl rfl (fun z6 => ?_)
      refine o_ostore type83 foc_self guard_none (look_tmp rfl) (fun _ => rfl) (look_tmp rfl) (fun _ => rfl) ?_
      refine o_end ?_
      refine den_region rfl ?_
      refine o_oloadi 0 rfl type83 foc_self rfl guard_none (look_tmp rfl) (fun _ => rfl) ?_
      refine o_move rfl rfl guard_none (look_tmp rfl) (fun _ => rfl) ?_
      refine o_weak (H' := [.obj true blk1_0 off1_0 (.dat (Rep.int .i64)) z4.2] ++ ([] ++ [.obj true z6 0 (.dat T_api_Expr_rep) z5])) (sub_pick [1, 0] rfl rfl) ?_
      refine o_callU rfl rfl rfl rfl rfl callable61 (looks_cons (look_tmp rfl) (fun _ => rfl) (looks_cons (look_tmp rfl) (fun _ => rfl) (looks_nil))) .nil (hrec_bound_each_v1 _ _ z5 z4.2) (fun _ _ => (wr_c wr_n)) (fun z8α z7 => ?_)
      refine o_weak (H' := [.obj true blk1_0 off1_0 (.dat (Rep.int .i64)) z7, .obj true z6 0 (.dat T_api_Expr_rep) z5]) (sub_pick [0, 1] rfl rfl) ?_
      refine o_end ?_
      refine den_blkend ?_
      refine den_region rfl ?_
      refine o_add rfl rfl guard_none (look_tmp rfl) (look_int rfl) (fun _ => rfl) (fun _ => rfl) ?_
      refine o_move rfl rfl guard_none (look_tmp rfl) (fun _ => rfl) ?_
      refine o_end ?_
      refine den_next ((Sub.trans (sub_pick [0] rfl rfl) (sub_env (sube_cons rfl (sube_cons rfl (sube_cons rfl (sube_cons rfl (sube_nil))))))))
    · refine den_code_exit ?_
      refine dene_out rfl ?_
      refine dene_loop (by simp) ?_
      refine dene_to rfl ?_
      refine den_end ((sub_env (sube_nil)))
  exact den_fallI () (res0 rfl ) (fun _ _ _ k => ato_pick [0] rfl rfl k)

theorem bound_each_v1_ok (N n : Nat) : ∀ (blk1_0 : Nat) (off1_0 : Nat) (e_0 : T_api_Expr) (c_1_0 : Int), FunOkI Try.prog 61 [⟨T_api_Expr_rep, e_0, true⟩, ⟨(Rep.clo 67 [⟨.addr, (blk1_0, off1_0), true⟩]), (), true⟩] [.obj true blk1_0 off1_0 (.dat (Rep.int .i64)) c_1_0] (bound_each_v1 N n e_0 c_1_0) (Rep.unit) (fun (α : Unit) (y : Int) => ()) (fun α y => [.obj true blk1_0 off1_0 (.dat (Rep.int .i64)) y]) := by
  induction n with
  | zero => intros; exact fun_noneI
  | succ n ih => exact bound_each_v1_rec_ok N _ ih

theorem bound_Longest_ok (fuel : Nat)  (e_0 : T_api_Expr) : FunOk Try.prog 60 [⟨T_api_Expr_rep, e_0, true⟩] (bound_Longest fuel e_0) (Rep.int .i64) := by
  refine fun_ok Try.func60 rfl Try.ntmps60 rfl (all_cons rfl all_nil) (fun w0 ok0 => ?_)
  refine den_seq ?_
  refine den_region rfl ?_
  refine o_box rfl rfl (look_tmp rfl) rfl (fun z1 => ?_)
  refine o_assign rfl rfl guard_none (look_int rfl) (fun _ => rfl) ?_
  refine o_end ?_
  refine den_seq ?_
  refine den_region rfl ?_
  refine o_alloc zero2 rfl rfl (fun z2 => ?_)
  refine o_ostore type2 foc_self guard_none (look_tmp rfl) (fun _ => rfl) (look_int rfl) (fun _ => rfl) ?_
  refine o_end ?_
  refine den_seq ?_
  refine den_region rfl ?_
  refine o_oloadi 1 rfl type83 foc_self rfl guard_none (look_tmp rfl) (fun _ => rfl) ?_
  refine o_mkfunc rfl rfl guard_none (looks_cons (look_tmp rfl) (fun _ => rfl) (looks_nil)) ?_
  refine o_weak (H' := [.obj true z2 0 (.dat (Rep.int .i64)) 0] ++ ([] ++ [.obj true z1 0 (.dat T_api_Expr_rep) e_0])) (sub_pick [0, 1] rfl rfl) ?_
  refine o_callU rfl rfl rfl rfl rfl callable61 (looks_cons (look_tmp rfl) (fun _ => rfl) (looks_cons (look_tmp rfl) (fun _ => rfl) (looks_nil))) .nil (bound_each_v1_ok fuel fuel _ _ e_0 0) (fun _ _ => (wr_c wr_n)) (fun z4α z3 => ?_)
  refine o_weak (H' := [.obj true z2 0 (.dat (Rep.int .i64)) z3, .obj true z1 0 (.dat T_api_Expr_rep) e_0]) (sub_pick [0, 1] rfl rfl) ?_
  refine o_end ?_
  refine den_seq ?_
  refine den_region rfl ?_
  refine o_oloadi 0 rfl type2 foc_self rfl guard_none (look_tmp rfl) (fun _ => rfl) ?_
  refine o_assign rfl rfl guard_none (look_tmp rfl) (fun _ => rfl) ?_
  refine o_end ?_
  refine den_code_ret ?_
  exact dene_res (res1 rfl (rv_tmp rfl))

theorem bound_Most_ok (fuel : Nat)  (e_0 : T_api_Expr) (times_1 : Int) : FunOk Try.prog 42 [⟨T_api_Expr_rep, e_0, true⟩, ⟨Rep.int .i64, times_1, true⟩] (bound_Most fuel e_0 times_1) (Rep.int .i64) := by
  refine fun_ok Try.func42 rfl Try.ntmps42 rfl (all_cons rfl (all_cons rfl all_nil)) (fun w0 ok0 => ?_)
  refine den_seq ?_
  refine den_region rfl ?_
  refine o_box rfl rfl (look_tmp rfl) rfl (fun z1 => ?_)
  refine o_assign rfl rfl guard_none (look_int rfl) (fun _ => rfl) ?_
  refine o_end ?_
  refine den_seq ?_
  refine den_region rfl ?_
  refine o_oloadi 0 rfl type83 foc_self rfl guard_none (look_tmp rfl) (fun _ => rfl) ?_
  refine o_call rfl rfl rfl callable43 (looks_cons (look_tmp rfl) (fun _ => rfl) (looks_nil)) (bound_Cells_ok fuel _) (fun z2 => ?_)
  refine o_move rfl rfl guard_none (look_tmp rfl) (fun _ => rfl) ?_
  refine o_max2 rfl rfl guard_none (look_tmp rfl) (look_int rfl) (fun _ => rfl) (fun _ => rfl) ?_
  refine o_min2 rfl rfl guard_none (look_tmp rfl) (look_int rfl) (fun _ => rfl) (fun _ => rfl) ?_
  refine o_add rfl rfl guard_none (look_tmp rfl) (look_int rfl) (fun _ => rfl) (fun _ => rfl) ?_
  refine o_mul rfl rfl guard_none (look_tmp rfl) (look_tmp rfl) (fun _ => rfl) (fun _ => rfl) ?_
  refine o_assign rfl rfl guard_none (look_tmp rfl) (fun _ => rfl) ?_
  refine o_lt (fun z3 => ?_)
  refine o_end ?_
  refine den_code_ret ?_
  exact dene_res (res1 rfl (rv_tmp rfl))

theorem law11_alive_ok (fuel : Nat)   : FunOk Try.prog 41 [] (law11_alive fuel) (Rep.bool) := by
  refine fun_ok Try.func41 rfl Try.ntmps41 rfl all_nil (fun w0 ok0 => ?_)
  refine den_seq ?_
  refine den_region rfl ?_
  refine o_assign rfl rfl guard_none look_bool (fun _ => rfl) ?_
  refine o_end ?_
  refine den_seq ?_
  refine den_region rfl ?_
  refine o_buildE (R := T_api_Expr_rep0 T_api_Expr_rep) (f := T_api_Expr_tup) (y := (⟨21, ([97] : Bytes), 0, 0, 0, []⟩ : T_api_Expr)) T_api_Expr_eq shape83 rfl rfl rfl rfl guard_none (bld_part rfl rfl (look_int rfl) (fun _ => rfl) (bld_part rfl rfl (look_str (l := [97]) rfl (by decide)) (fun _ => rfl) (bld_zero (z_int rfl) (bld_zero (z_int rfl) (bld_zero (z_int rfl) (bld_zero (z_slice rfl) (bld_nil))))))) ?_
  refine o_bslice Try.underlying81 (info_i info83) (info_z info83) type83 rfl rfl rfl rfl rfl rfl guard_none (looksL_cons (look_tmp rfl) (fun _ => rfl) (looksL_nil)) ?_
  refine o_buildE (R := T_api_Expr_rep0 T_api_Expr_rep) (f := T_api_Expr_tup) (y := (⟨25, [], 0, 0, 0, ([(⟨21, ([97] : Bytes), 0, 0, 0, []⟩ : T_api_Expr)] : List T_api_Expr)⟩ : T_api_Expr)) T_api_Expr_eq shape83 rfl rfl rfl rfl guard_none (bld_part rfl rfl (look_int rfl) (fun _ => rfl) (bld_zero (z_str rfl) (bld_zero (z_int rfl) (bld_zero (z_int rfl) (bld_zero (z_int rfl) (bld_part rfl rfl (look_tmp rfl) (fun _ => rfl) (bld_nil))))))) ?_
  refine o_bslice Try.underlying81 (info_i info83) (info_z info83) type83 rfl rfl rfl rfl rfl rfl guard_none (looksL_cons (look_tmp rfl) (fun _ => rfl) (looksL_nil)) ?_
  refine o_buildE (R := T_api_Expr_rep0 T_api_Expr_rep) (f := T_api_Expr_tup) (y := (⟨22, [], 0, 0, 5, ([(⟨25, [], 0, 0, 0, ([(⟨21, ([97] : Bytes), 0, 0, 0, []⟩ : T_api_Expr)] : List T_api_Expr)⟩ : T_api_Expr)] : List T_api_Expr)⟩ : T_api_Expr)) T_api_Expr_eq shape83 rfl rfl rfl rfl guard_none (bld_part rfl rfl (look_int rfl) (fun _ => rfl) (bld_zero (z_str rfl) (bld_zero (z_int rfl) (bld_zero (z_int rfl) (bld_part rfl rfl (look_int rfl) (fun _ => rfl) (bld_part rfl rfl (look_tmp rfl) (fun _ => rfl) (bld_nil))))))) ?_
  refine o_alloc zero83 rfl rfl (fun z1 => ?_)
  refine o_ostore type83 foc_self guard_none (look_tmp rfl) (fun _ => rfl) (look_tmp rfl) (fun _ => rfl) ?_
  refine o_lti (it := fun x => .obj true z1 0 (.dat T_api_Expr_rep) x) (fun z2 => ?_)
  refine o_end ?_
  refine den_seq ?_
  refine den_region rfl ?_
  refine o_oloadi 0 rfl type83 foc_self rfl guard_none (look_tmp rfl) (fun _ => rfl) ?_
  refine o_call rfl rfl rfl callable43 (looks_cons (look_tmp rfl) (fun _ => rfl) (looks_nil)) (bound_Cells_ok fuel _) (fun z3 => ?_)
  refine o_eql rfl rfl guard_none (look_tmp rfl) (look_int rfl) (fun _ => rfl) (fun _ => rfl) ?_
  refine o_move rfl rfl guard_none (look_tmp rfl) (fun _ => rfl) ?_
  refine o_oloadi 0 rfl type83 foc_self rfl (guard_some rfl rfl rfl) (look_tmp rfl) (fun _ => rfl) ?_
  refine o_callg rfl rfl rfl (guard_some rfl rfl rfl) callable60 (looks_cons (look_tmp rfl) (fun h => h) (looks_nil)) (bound_Longest_ok fuel _) (fun z4 => ?_)
  refine o_eql rfl rfl (guard_some rfl rfl rfl) (look_tmp rfl) (look_int rfl) (fun h => h) (fun _ => rfl) ?_
  refine o_pick rfl rfl guard_none (look_tmp rfl) (look_tmp rfl) look_bool (fun _ => rfl) (fun h1 h2 => pick_t ((fun _ => rfl) h1) h2) (fun _ _ => rfl) ?_
  refine o_move rfl rfl guard_none (look_tmp rfl) (fun _ => rfl) ?_
  refine o_oloadi 0 rfl type83 foc_self rfl (guard_some rfl rfl rfl) (look_tmp rfl) (fun _ => rfl) ?_
  refine o_callg rfl rfl rfl (guard_some rfl rfl rfl) callable42 (looks_cons (look_tmp rfl) (fun h => h) (looks_cons (look_int rfl) (fun _ => rfl) (looks_nil))) (bound_Most_ok fuel _ _) (fun z5 => ?_)
  refine o_eql rfl rfl (guard_some rfl rfl rfl) (look_tmp rfl) (look_int rfl) (fun h => h) (fun _ => rfl) ?_
  refine o_pick rfl rfl guard_none (look_tmp rfl) (look_tmp rfl) look_bool (fun _ => rfl) (fun h1 h2 => pick_t ((fun _ => rfl) h1) h2) (fun _ _ => rfl) ?_
  refine o_assign rfl rfl guard_none (look_tmp rfl) (fun _ => rfl) ?_
  refine o_lt (fun z6 => ?_)
  refine o_end ?_
  refine den_code_ret ?_
  exact dene_res (res1 rfl (rv_tmp rfl))

theorem law11_BoundRises_ok (fuel : Nat)  (e_0 : T_api_Expr) (p_1 : Int) (q_2 : Int) : FunOk Try.prog 14 [⟨T_api_Expr_rep, e_0, true⟩, ⟨Rep.int .i64, p_1, true⟩, ⟨Rep.int .i64, q_2, true⟩] (law11_BoundRises fuel e_0 p_1 q_2) (Rep.bool) := by
  refine fun_ok Try.func14 rfl Try.ntmps14 rfl (all_cons rfl (all_cons rfl (all_cons rfl all_nil))) (fun w0 ok0 => ?_)
  refine den_seq ?_
  refine den_region rfl ?_
  refine o_box rfl rfl (look_tmp rfl) rfl (fun z1 => ?_)
  refine o_assign rfl rfl guard_none look_bool (fun _ => rfl) ?_
  refine o_end ?_
  refine den_seq ?_
  refine den_seq ?_
  refine den_region rfl ?_
  refine o_call rfl rfl rfl callable41 (looks_nil) (law11_alive_ok fuel) (fun z2 => ?_)
  refine o_not rfl rfl guard_none (look_tmp rfl) (fun _ => rfl) ?_
  refine o_end ?_
  refine den_cond (look_tmp rfl) ?_ ?_
  · refine den_seq ?_
    refine den_region rfl ?_
    refine o_assign rfl rfl guard_none look_bool (fun _ => rfl) ?_
    refine o_end ?_
    refine den_code_ret ?_
    refine dene_ret ?_
    exact dene_res (res1 rfl (rv_tmp rfl))
  · refine den_skip ?_
    refine den_seq ?_
    refine den_seq ?_
    refine den_region rfl ?_
    refine o_move rfl rfl guard_none (look_tmp rfl) (fun _ => rfl) ?_
    refine o_move rfl rfl guard_none (look_tmp rfl) (fun _ => rfl) ?_
    refine o_gtr rfl rfl guard_none (look_tmp rfl) (look_tmp rfl) (fun _ => rfl) (fun _ => rfl) ?_
    refine o_end ?_
    refine den_cond (look_tmp rfl) ?_ ?_
    · refine den_seq ?_
      refine den_region rfl ?_
      refine o_assign rfl rfl guard_none look_bool (fun _ => rfl) ?_
      refine o_end ?_
      refine den_code_ret ?_
      refine dene_ret ?_
      exact dene_res (res1 rfl (rv_tmp rfl))
    · refine den_skip ?_
      refine den_seq ?_
      refine den_open (fun z3 h_z3 => ?_)
      refine den_open (fun z4 h_z4 => ?_)
      refine den_open (fun z5 h_z5 => ?_)
      refine den_open (fun z6 h_z6 => ?_)
      refine den_draw [(12, ⟨T_api_Expr_rep, e_0, true⟩), (13, ⟨Rep.int .i64, p_1, true⟩), (14, ⟨Rep.int .i64, z3, true⟩), (15, ⟨T_api_Expr_rep, e_0, true⟩), (16, ⟨Rep.int .i64, q_2, true⟩), (17, ⟨Rep.int .i64, z4, true⟩), (18, ⟨Rep.bool, decide (z3 ≤ z4), true⟩), (19, ⟨Rep.bool, decide (z3 ≤ z4), true⟩), (20, ⟨T_api_Expr_rep, e_0, (true && ((decide (z3 ≤ z4)) == true))⟩), (21, ⟨Rep.int .i64, p_1, (true && ((decide (z3 ≤ z4)) == true))⟩), (22, ⟨Rep.int .i64, z5, (true && ((decide (z3 ≤ z4)) == true))⟩), (23, ⟨Rep.bool, z5 == 0, (true && ((decide (z3 ≤ z4)) == true))⟩), (24, ⟨T_api_Expr_rep, e_0, (true && ((decide (z3 ≤ z4)) == true))⟩), (25, ⟨Rep.int .i64, z6, (true && ((decide (z3 ≤ z4)) == true))⟩), (26, ⟨Rep.bool, z6 == 0, (true && ((decide (z3 ≤ z4)) == true))⟩), (27, ⟨Rep.bool, (z5 == 0) == (z6 == 0), (true && ((decide (z3 ≤ z4)) == true))⟩), (28, ⟨Rep.bool, cond (decide (z3 ≤ z4)) ((z5 == 0) == (z6 == 0)) false, true⟩), (6, ⟨Rep.bool, cond (decide (z3 ≤ z4)) ((z5 == 0) == (z6 == 0)) false, true⟩)] mixed rfl rfl ⟨?_, ?_, ?_, ?_, ?_, ?_, ?_, ?_, ?_, ?_, ?_, ?_, ?_, ?_, ?_, ?_, ?_, ?_, trivial⟩ ?_
      · intro S hc hk hp
        refine o_oloadi 0 rfl type83 foc_self rfl guard_none (look_o rfl rfl) (fun _ => rfl) ?_
        exact d_end rfl rfl rfl
      · intro S hc hk hp
        refine o_move rfl rfl guard_none (look_o rfl rfl) (fun _ => rfl) ?_
        exact d_end rfl rfl rfl
      · intro S hc hk hp
        refine o_from (bind_eqO h_z3) ?_
        refine o_call rfl rfl rfl callable42 (looks_cons (look_d rfl rfl (pr hp 0 rfl rfl)) (fun _ => rfl) (looks_cons (look_d rfl rfl (pr hp 1 rfl rfl)) (fun _ => rfl) (looks_nil))) (bound_Most_ok fuel _ _) (o_eqO ?_)
        exact d_end rfl rfl rfl
      · intro S hc hk hp
        refine o_oloadi 0 rfl type83 foc_self rfl guard_none (look_o rfl rfl) (fun _ => rfl) ?_
        exact d_end rfl rfl rfl
      · intro S hc hk hp
        refine o_move rfl rfl guard_none (look_o rfl rfl) (fun _ => rfl) ?_
        exact d_end rfl rfl rfl
      · intro S hc hk hp
        refine o_from (bind_eqO h_z4) ?_
        refine o_call rfl rfl rfl callable42 (looks_cons (look_d rfl rfl (pr hp 0 rfl rfl)) (fun _ => rfl) (looks_cons (look_d rfl rfl (pr hp 1 rfl rfl)) (fun _ => rfl) (looks_nil))) (bound_Most_ok fuel _ _) (o_eqO ?_)
        exact d_end rfl rfl rfl
      · intro S hc hk hp
        refine o_leq rfl rfl guard_none (look_d rfl rfl (pr hp 0 rfl rfl)) (look_d rfl rfl (pr hp 1 rfl rfl)) (fun _ => rfl) (fun _ => rfl) ?_
        exact d_end rfl rfl rfl
      · intro S hc hk hp
        refine o_move rfl rfl guard_none (look_d rfl rfl (pr hp 0 rfl rfl)) (fun _ => rfl) ?_
        exact d_end rfl rfl rfl
      · intro S hc hk hp
        refine o_oloadi 0 rfl type83 foc_self rfl (guard_d rfl rfl rfl rfl (pr hp 0 rfl rfl)) (look_o rfl rfl) (fun _ => rfl) ?_
        exact d_end rfl rfl rfl
      · intro S hc hk hp
        refine o_move rfl rfl (guard_d rfl rfl rfl rfl (pr hp 0 rfl rfl)) (look_o rfl rfl) (fun _ => rfl) ?_
        exact d_end rfl rfl rfl
      · intro S hc hk hp
        refine o_from (bind_eqO h_z5) ?_
        refine o_callg rfl rfl rfl (guard_d rfl rfl rfl rfl (pr hp 2 rfl rfl)) callable42 (looks_cons (look_d rfl rfl (pr hp 0 rfl rfl)) (fun h => h) (looks_cons (look_d rfl rfl (pr hp 1 rfl rfl)) (fun h => h) (looks_nil))) (bound_Most_ok fuel _ _) (o_eqO ?_)
        exact d_end rfl rfl rfl
      · intro S hc hk hp
        refine o_eql rfl rfl (guard_d rfl rfl rfl rfl (pr hp 1 rfl rfl)) (look_d rfl rfl (pr hp 0 rfl rfl)) (look_int rfl) (fun h => h) (fun _ => rfl) ?_
        exact d_end rfl rfl rfl
      · intro S hc hk hp
        refine o_oloadi 0 rfl type83 foc_self rfl (guard_d rfl rfl rfl rfl (pr hp 0 rfl rfl)) (look_o rfl rfl) (fun _ => rfl) ?_
        exact d_end rfl rfl rfl
      · intro S hc hk hp
        refine o_from (bind_eqO h_z6) ?_
        refine o_callg rfl rfl rfl (guard_d rfl rfl rfl rfl (pr hp 2 rfl rfl)) callable43 (looks_cons (look_d rfl rfl (pr hp 0 rfl rfl)) (fun h => h) (looks_nil)) (bound_Cells_ok fuel _) (o_eqO ?_)
        exact d_end rfl rfl rfl
      · intro S hc hk hp
        refine o_eql rfl rfl (guard_d rfl rfl rfl rfl (pr hp 1 rfl rfl)) (look_d rfl rfl (pr hp 0 rfl rfl)) (look_int rfl) (fun h => h) (fun _ => rfl) ?_
        exact d_end rfl rfl rfl
      · intro S hc hk hp
        refine o_beql Try.underlying4 rfl rfl (guard_d rfl rfl rfl rfl (pr hp 2 rfl rfl)) (look_d rfl rfl (pr hp 0 rfl rfl)) (look_d rfl rfl (pr hp 1 rfl rfl)) (fun h => h) (fun h => h) ?_
        exact d_end rfl rfl rfl
      · intro S hc hk hp
        refine o_pick rfl rfl guard_none (look_d rfl rfl (pr hp 0 rfl rfl)) (look_d rfl rfl (pr hp 1 rfl rfl)) look_bool (fun _ => rfl) (fun h1 h2 => pick_t ((fun _ => rfl) h1) h2) (fun _ _ => rfl) ?_
        exact d_end rfl rfl rfl
      · intro S hc hk hp
        refine o_assign rfl rfl guard_none (look_d rfl rfl (pr hp 0 rfl rfl)) (fun _ => rfl) ?_
        exact d_end rfl rfl rfl
      refine den_code_ret ?_
      exact dene_res (res1 rfl (rv_tmp rfl))

end Go.Proofs.Ytlikbfnaihccmaa.M
