/- That the Go functions answer as the plain ones: written by gen2.py. -/
import Derived.Test.YtijfebipalhhjaaOks1
namespace Go.Proofs.Ytijfebipalhhjaa.M
open Go.Eng Go
set_option linter.unusedVariables false

set_option maxHeartbeats 1000000 in
theorem law05_step_ok (blk0 : Nat) (off0 : Nat) (val0_0 : Value) (val0_1 : Value) (s_0 : T_store_Store) (m_1 : T_ref05_State) (x_2 : T_law05_Op) : FunOkI Try.prog 54 [⟨.addr, (blk0, off0), true⟩, ⟨T_ref05_State_rep, m_1, true⟩, ⟨T_law05_Op_rep, x_2, true⟩] [.obj true 0 0 (mrep val0_0 (Rep.str) (Rep.int .i64)) s_0.kinds, .obj true 0 0 (mrep val0_1 (T_store_place_rep) (T_api_Value_rep)) s_0.set, .obj true blk0 off0 (.dat (T_store_Store_repo val0_0 val0_1)) s_0] (law05_step s_0 m_1 x_2) (Rep.pair (T_ref05_State_rep) (Rep.bool)) (fun (α : (Value × Value)) (y : (T_ref05_State × Bool × T_store_Store)) => (y.1, y.2.1)) (fun α y => [.obj true 0 0 (mrep α.1 (Rep.str) (Rep.int .i64)) y.2.2.kinds, .obj true 0 0 (mrep α.2 (T_store_place_rep) (T_api_Value_rep)) y.2.2.set, .obj true blk0 off0 (.dat (T_store_Store_repo α.1 α.2)) y.2.2]) := by
  refine fun_okI Try.func54 rfl Try.ntmps54 rfl (all_cons rfl (all_cons rfl (all_cons rfl all_nil))) (fun w0 ok0 M => ?_)
  refine den_seq ?_
  refine den_region rfl ?_
  refine o_box rfl rfl (look_tmp rfl) rfl (fun z1 => ?_)
  refine o_box rfl rfl (look_tmp rfl) rfl (fun z2 => ?_)
  refine o_alloc zero27 rfl rfl (fun z3 => ?_)
  refine o_assign rfl rfl guard_none look_bool (fun _ => rfl) ?_
  refine o_end ?_
  refine den_seq ?_
  refine den_seq ?_
  refine den_region rfl ?_
  refine o_faddr field97_0 type3 (by decide) rfl rfl guard_none (look_tmp rfl) (fun _ => rfl) ?_
  refine o_oloadi 1 rfl type3 T_law05_Op_foc0 rfl guard_none (look_tmp rfl) (fun _ => rfl) ?_
  refine o_eql rfl rfl guard_none (look_tmp rfl) (look_int rfl) (fun _ => rfl) (fun _ => rfl) ?_
  refine o_end ?_
  refine den_cond (look_tmp rfl) ?_ ?_
  · refine den_seq ?_
    refine den_region rfl ?_
    refine o_oloadi 2 rfl type27 foc_self rfl guard_none (look_tmp rfl) (fun _ => rfl) ?_
    refine o_faddr field97_1 type9 (by decide) rfl rfl guard_none (look_tmp rfl) (fun _ => rfl) ?_
    refine o_oloadi 1 rfl type9 T_law05_Op_foc1 rfl guard_none (look_tmp rfl) (fun _ => rfl) ?_
    refine o_faddr field97_2 type9 (by decide) rfl rfl guard_none (look_tmp rfl) (fun _ => rfl) ?_
    refine o_oloadi 1 rfl type9 T_law05_Op_foc2 rfl guard_none (look_tmp rfl) (fun _ => rfl) ?_
    refine o_faddr field97_3 type39 (by decide) rfl rfl guard_none (look_tmp rfl) (fun _ => rfl) ?_
    refine o_oloadi 1 rfl type39 T_law05_Op_foc3 rfl guard_none (look_tmp rfl) (fun _ => rfl) ?_
    refine o_call rfl rfl rfl callable83 (looks_cons (look_tmp rfl) (fun _ => rfl) (looks_cons (look_tmp rfl) (fun _ => rfl) (looks_cons (look_tmp rfl) (fun _ => rfl) (looks_cons (look_tmp rfl) (fun _ => rfl) (looks_nil))))) (ref05_Set_ok _ _ _ _) (fun z4 => ?_)
    refine o_move rfl rfl guard_none (look_tmp rfl) (fun _ => rfl) ?_
    refine o_fst rfl rfl guard_none (look_tmp rfl) (fun _ => rfl) ?_
    refine o_snd rfl rfl guard_none (look_tmp rfl) (fun _ => rfl) ?_
    refine o_alloc zero27 rfl rfl (fun z5 => ?_)
    refine o_ostore type27 foc_self guard_none (look_tmp rfl) (fun _ => rfl) (look_tmp rfl) (fun _ => rfl) ?_
    refine o_assign rfl rfl guard_none (look_tmp rfl) (fun _ => rfl) ?_
    refine o_end ?_
    refine den_seq ?_
    refine den_open (fun z7 h_z7 => ?_)
    have hB : ∀ (z6α : (Value × Value)) (S : Nat → Bool) (b8 b11 : Bool), S 8 = b8 → S 11 = b11 → (([.obj true z5 0 (.dat T_ref05_State_rep) z4.1, (cond (S 11) (.obj true z3 0 (.dat T_ref05_State_rep) z4.1) (.obj true z3 0 (.dat T_ref05_State_rep) T_ref05_State_zero)), .obj true z2 0 (.dat T_law05_Op_rep) x_2, .obj true z1 0 (.dat T_ref05_State_rep) m_1, (cond (S 8) (.gone) (.obj true 0 0 (mrep val0_0 (Rep.str) (Rep.int .i64)) s_0.kinds)), (cond (S 8) (.gone) (.obj true 0 0 (mrep val0_1 (T_store_place_rep) (T_api_Value_rep)) s_0.set)), (cond (S 8) (.obj true blk0 off0 (.dat (T_store_Store_repo z6α.1 z6α.2)) z7.2) (.obj true blk0 off0 (.dat (T_store_Store_repo val0_0 val0_1)) s_0)), (cond (S 8) (.obj true 0 0 (mrep (z6α.1) (Rep.str) (Rep.int .i64)) z7.2.kinds) (.gone)), (cond (S 8) (.obj true 0 0 (mrep (z6α.2) (T_store_place_rep) (T_api_Value_rep)) z7.2.set) (.gone))] : List Go.Eng.Item)) = ([.obj true z5 0 (.dat T_ref05_State_rep) z4.1, (cond b11 (.obj true z3 0 (.dat T_ref05_State_rep) z4.1) (.obj true z3 0 (.dat T_ref05_State_rep) T_ref05_State_zero)), .obj true z2 0 (.dat T_law05_Op_rep) x_2, .obj true z1 0 (.dat T_ref05_State_rep) m_1, (cond b8 (.gone) (.obj true 0 0 (mrep val0_0 (Rep.str) (Rep.int .i64)) s_0.kinds)), (cond b8 (.gone) (.obj true 0 0 (mrep val0_1 (T_store_place_rep) (T_api_Value_rep)) s_0.set)), (cond b8 (.obj true blk0 off0 (.dat (T_store_Store_repo z6α.1 z6α.2)) z7.2) (.obj true blk0 off0 (.dat (T_store_Store_repo val0_0 val0_1)) s_0)), (cond b8 (.obj true 0 0 (mrep (z6α.1) (Rep.str) (Rep.int .i64)) z7.2.kinds) (.gone)), (cond b8 (.obj true 0 0 (mrep (z6α.2) (T_store_place_rep) (T_api_Value_rep)) z7.2.set) (.gone))] : List Go.Eng.Item) := fun z6α S b8 b11 h8 h11 => by subst h8; subst h11; rfl
    refine den_weak sub_gone ?_
    refine den_weak sub_gone ?_
    refine den_weak (sub_pick (H' := [.obj true z5 0 (.dat T_ref05_State_rep) z4.1, .obj true z3 0 (.dat T_ref05_State_rep) T_ref05_State_zero, .obj true z2 0 (.dat T_law05_Op_rep) x_2, .obj true z1 0 (.dat T_ref05_State_rep) m_1, .obj true 0 0 (mrep val0_0 (Rep.str) (Rep.int .i64)) s_0.kinds, .obj true 0 0 (mrep val0_1 (T_store_place_rep) (T_api_Value_rep)) s_0.set, .obj true blk0 off0 (.dat (T_store_Store_repo val0_0 val0_1)) s_0, .gone, .gone]) [2, 3, 4, 5, 6, 7, 8, 0, 1] rfl rfl) ?_
    refine den_drawA (A := (Value × Value)) (H' := fun z6α => [.obj true z5 0 (.dat T_ref05_State_rep) z4.1, .obj true z3 0 (.dat T_ref05_State_rep) z4.1, .obj true z2 0 (.dat T_law05_Op_rep) x_2, .obj true z1 0 (.dat T_ref05_State_rep) m_1, .gone, .gone, .obj true blk0 off0 (.dat (T_store_Store_repo z6α.1 z6α.2)) z7.2, .obj true 0 0 (mrep (z6α.1) (Rep.str) (Rep.int .i64)) z7.2.kinds, .obj true 0 0 (mrep (z6α.2) (T_store_place_rep) (T_api_Value_rep)) z7.2.set]) (fun z6α => [(28, ⟨T_ref05_State_rep, z4.1, true⟩), (29, ⟨Rep.addr, (blk0, off0), true⟩), (30, ⟨Rep.addr, (z2, 0 + 1), true⟩), (31, ⟨Rep.str, x_2.Entity, true⟩), (32, ⟨Rep.addr, (z2, 0 + 2), true⟩), (33, ⟨Rep.str, x_2.Name, true⟩), (34, ⟨Rep.addr, (z2, 0 + 3), true⟩), (35, ⟨T_api_Value_rep, x_2.V, true⟩), (36, ⟨Rep.int .i64, z7.1, true⟩), (37, ⟨Rep.int .i64, z4.2, true⟩), (38, ⟨Rep.bool, z7.1 == z4.2, true⟩), (113, ⟨.any, (), false⟩), (7, ⟨Rep.bool, z7.1 == z4.2, true⟩)]) (fun z6α S => [.obj true z5 0 (.dat T_ref05_State_rep) z4.1, (cond (S 11) (.obj true z3 0 (.dat T_ref05_State_rep) z4.1) (.obj true z3 0 (.dat T_ref05_State_rep) T_ref05_State_zero)), .obj true z2 0 (.dat T_law05_Op_rep) x_2, .obj true z1 0 (.dat T_ref05_State_rep) m_1, (cond (S 8) (.gone) (.obj true 0 0 (mrep val0_0 (Rep.str) (Rep.int .i64)) s_0.kinds)), (cond (S 8) (.gone) (.obj true 0 0 (mrep val0_1 (T_store_place_rep) (T_api_Value_rep)) s_0.set)), (cond (S 8) (.obj true blk0 off0 (.dat (T_store_Store_repo z6α.1 z6α.2)) z7.2) (.obj true blk0 off0 (.dat (T_store_Store_repo val0_0 val0_1)) s_0)), (cond (S 8) (.obj true 0 0 (mrep (z6α.1) (Rep.str) (Rep.int .i64)) z7.2.kinds) (.gone)), (cond (S 8) (.obj true 0 0 (mrep (z6α.2) (T_store_place_rep) (T_api_Value_rep)) z7.2.set) (.gone))]) ((Value.slice none 0 0), (Value.slice none 0 0)) mixed (fun _ => rfl) rfl rfl (fun z6α S hS => hB z6α S true true (hS 8 (by decide)) (hS 11 (by decide))) ⟨?_, ?_, ?_, ?_, ?_, ?_, ?_, ?_, ?_, ?_, ?_, ?_, ?_, trivial⟩ (fun z6α => ?_)
    · intro z6α S hc hk hp
      have e11 : S 11 = false := (not_yet (j := 11) (q := 0) hc hk rfl rfl rfl rfl)
      refine eq_H (H' := [.obj true z5 0 (.dat T_ref05_State_rep) z4.1, .obj true z3 0 (.dat T_ref05_State_rep) T_ref05_State_zero, .obj true z2 0 (.dat T_law05_Op_rep) x_2, .obj true z1 0 (.dat T_ref05_State_rep) m_1, (cond (S 8) (.gone) (.obj true 0 0 (mrep val0_0 (Rep.str) (Rep.int .i64)) s_0.kinds)), (cond (S 8) (.gone) (.obj true 0 0 (mrep val0_1 (T_store_place_rep) (T_api_Value_rep)) s_0.set)), (cond (S 8) (.obj true blk0 off0 (.dat (T_store_Store_repo z6α.1 z6α.2)) z7.2) (.obj true blk0 off0 (.dat (T_store_Store_repo val0_0 val0_1)) s_0)), (cond (S 8) (.obj true 0 0 (mrep (z6α.1) (Rep.str) (Rep.int .i64)) z7.2.kinds) (.gone)), (cond (S 8) (.obj true 0 0 (mrep (z6α.2) (T_store_place_rep) (T_api_Value_rep)) z7.2.set) (.gone))]) (by first | exact hB z6α S (S 8) false rfl e11 | (have q := hB z6α S (S 8) false rfl e11; simp only [cond_true, cond_false] at q; exact q)) ?_
      refine o_oloadi 0 rfl type27 foc_self rfl guard_none (look_o rfl rfl) (fun _ => rfl) ?_
      apply h_endA (α := z6α) z6α
      · exact (.same (.same (.same (.same (.same (.same (.same (.same (.same (.same (.same (.same (.same .nil)))))))))))))
      · exact rfl
      · exact rfl
      · exact rfl
      · exact hB z6α (fun k => S k || Nat.beq k 0) (S 8) false (or_ne rfl) (or_f e11 rfl)
    · intro z6α S hc hk hp
      have e8 : S 8 = false := (not_yet (j := 8) (q := 0) hc hk rfl rfl rfl rfl)
      have e11 : S 11 = false := (not_yet (j := 11) (q := 1) hc (not_yet (j := 8) (q := 0) hc hk rfl rfl rfl rfl) rfl rfl rfl rfl)
      refine eq_H (H' := [.obj true z5 0 (.dat T_ref05_State_rep) z4.1, .obj true z3 0 (.dat T_ref05_State_rep) T_ref05_State_zero, .obj true z2 0 (.dat T_law05_Op_rep) x_2, .obj true z1 0 (.dat T_ref05_State_rep) m_1, .obj true 0 0 (mrep val0_0 (Rep.str) (Rep.int .i64)) s_0.kinds, .obj true 0 0 (mrep val0_1 (T_store_place_rep) (T_api_Value_rep)) s_0.set, .obj true blk0 off0 (.dat (T_store_Store_repo val0_0 val0_1)) s_0, .gone, .gone]) (by first | exact hB z6α S false false e8 e11 | (have q := hB z6α S false false e8 e11; simp only [cond_true, cond_false] at q; exact q)) ?_
      refine o_move rfl rfl guard_none (look_o rfl rfl) (fun _ => rfl) ?_
      apply h_endA (α := z6α) z6α
      · exact (.same (.same (.same (.same (.same (.same (.same (.same (.same (.same (.same (.same (.same .nil)))))))))))))
      · exact rfl
      · exact rfl
      · exact rfl
      · exact hB z6α (fun k => S k || Nat.beq k 1) false false (or_f e8 rfl) (or_f e11 rfl)
    · intro z6α S hc hk hp
      have e8 : S 8 = false := (not_yet (j := 8) (q := 1) hc (not_yet (j := 3) (q := 0) hc hk rfl rfl rfl rfl) rfl rfl rfl rfl)
      have e11 : S 11 = false := (not_yet (j := 11) (q := 1) hc (not_yet (j := 8) (q := 1) hc (not_yet (j := 3) (q := 0) hc hk rfl rfl rfl rfl) rfl rfl rfl rfl) rfl rfl rfl rfl)
      refine eq_H (H' := [.obj true z5 0 (.dat T_ref05_State_rep) z4.1, .obj true z3 0 (.dat T_ref05_State_rep) T_ref05_State_zero, .obj true z2 0 (.dat T_law05_Op_rep) x_2, .obj true z1 0 (.dat T_ref05_State_rep) m_1, .obj true 0 0 (mrep val0_0 (Rep.str) (Rep.int .i64)) s_0.kinds, .obj true 0 0 (mrep val0_1 (T_store_place_rep) (T_api_Value_rep)) s_0.set, .obj true blk0 off0 (.dat (T_store_Store_repo val0_0 val0_1)) s_0, .gone, .gone]) (by first | exact hB z6α S false false e8 e11 | (have q := hB z6α S false false e8 e11; simp only [cond_true, cond_false] at q; exact q)) ?_
      refine o_faddr field97_1 type9 (by decide) rfl rfl guard_none (look_o rfl rfl) (fun _ => rfl) ?_
      apply h_endA (α := z6α) z6α
      · exact (.same (.same (.same (.same (.same (.same (.same (.same (.same (.same (.same (.same (.same .nil)))))))))))))
      · exact rfl
      · exact rfl
      · exact rfl
      · exact hB z6α (fun k => S k || Nat.beq k 2) false false (or_f e8 rfl) (or_f e11 rfl)
    · intro z6α S hc hk hp
      have e8 : S 8 = false := (not_yet (j := 8) (q := 1) hc hk rfl rfl rfl rfl)
      have e11 : S 11 = false := (not_yet (j := 11) (q := 1) hc (not_yet (j := 8) (q := 1) hc hk rfl rfl rfl rfl) rfl rfl rfl rfl)
      refine eq_H (H' := [.obj true z5 0 (.dat T_ref05_State_rep) z4.1, .obj true z3 0 (.dat T_ref05_State_rep) T_ref05_State_zero, .obj true z2 0 (.dat T_law05_Op_rep) x_2, .obj true z1 0 (.dat T_ref05_State_rep) m_1, .obj true 0 0 (mrep val0_0 (Rep.str) (Rep.int .i64)) s_0.kinds, .obj true 0 0 (mrep val0_1 (T_store_place_rep) (T_api_Value_rep)) s_0.set, .obj true blk0 off0 (.dat (T_store_Store_repo val0_0 val0_1)) s_0, .gone, .gone]) (by first | exact hB z6α S false false e8 e11 | (have q := hB z6α S false false e8 e11; simp only [cond_true, cond_false] at q; exact q)) ?_
      refine o_oloadi 2 rfl type9 T_law05_Op_foc1 rfl guard_none (look_d rfl rfl (pr hp 0 rfl rfl)) (fun _ => rfl) ?_
      apply h_endA (α := z6α) z6α
      · exact (.same (.same (.same (.same (.same (.same (.same (.same (.same (.same (.same (.same (.same .nil)))))))))))))
      · exact rfl
      · exact rfl
      · exact rfl
      · exact hB z6α (fun k => S k || Nat.beq k 3) false false (or_f e8 rfl) (or_f e11 rfl)
    · intro z6α S hc hk hp
      have e8 : S 8 = false := (not_yet (j := 8) (q := 2) hc (not_yet (j := 5) (q := 0) hc hk rfl rfl rfl rfl) rfl rfl rfl rfl)
      have e11 : S 11 = false := (not_yet (j := 11) (q := 1) hc (not_yet (j := 8) (q := 2) hc (not_yet (j := 5) (q := 0) hc hk rfl rfl rfl rfl) rfl rfl rfl rfl) rfl rfl rfl rfl)
      refine eq_H (H' := [.obj true z5 0 (.dat T_ref05_State_rep) z4.1, .obj true z3 0 (.dat T_ref05_State_rep) T_ref05_State_zero, .obj true z2 0 (.dat T_law05_Op_rep) x_2, .obj true z1 0 (.dat T_ref05_State_rep) m_1, .obj true 0 0 (mrep val0_0 (Rep.str) (Rep.int .i64)) s_0.kinds, .obj true 0 0 (mrep val0_1 (T_store_place_rep) (T_api_Value_rep)) s_0.set, .obj true blk0 off0 (.dat (T_store_Store_repo val0_0 val0_1)) s_0, .gone, .gone]) (by first | exact hB z6α S false false e8 e11 | (have q := hB z6α S false false e8 e11; simp only [cond_true, cond_false] at q; exact q)) ?_
      refine o_faddr field97_2 type9 (by decide) rfl rfl guard_none (look_o rfl rfl) (fun _ => rfl) ?_
      apply h_endA (α := z6α) z6α
      · exact (.same (.same (.same (.same (.same (.same (.same (.same (.same (.same (.same (.same (.same .nil)))))))))))))
      · exact rfl
      · exact rfl
      · exact rfl
      · exact hB z6α (fun k => S k || Nat.beq k 4) false false (or_f e8 rfl) (or_f e11 rfl)
    · intro z6α S hc hk hp
      have e8 : S 8 = false := (not_yet (j := 8) (q := 2) hc hk rfl rfl rfl rfl)
      have e11 : S 11 = false := (not_yet (j := 11) (q := 1) hc (not_yet (j := 8) (q := 2) hc hk rfl rfl rfl rfl) rfl rfl rfl rfl)
      refine eq_H (H' := [.obj true z5 0 (.dat T_ref05_State_rep) z4.1, .obj true z3 0 (.dat T_ref05_State_rep) T_ref05_State_zero, .obj true z2 0 (.dat T_law05_Op_rep) x_2, .obj true z1 0 (.dat T_ref05_State_rep) m_1, .obj true 0 0 (mrep val0_0 (Rep.str) (Rep.int .i64)) s_0.kinds, .obj true 0 0 (mrep val0_1 (T_store_place_rep) (T_api_Value_rep)) s_0.set, .obj true blk0 off0 (.dat (T_store_Store_repo val0_0 val0_1)) s_0, .gone, .gone]) (by first | exact hB z6α S false false e8 e11 | (have q := hB z6α S false false e8 e11; simp only [cond_true, cond_false] at q; exact q)) ?_
      refine o_oloadi 2 rfl type9 T_law05_Op_foc2 rfl guard_none (look_d rfl rfl (pr hp 0 rfl rfl)) (fun _ => rfl) ?_
      apply h_endA (α := z6α) z6α
      · exact (.same (.same (.same (.same (.same (.same (.same (.same (.same (.same (.same (.same (.same .nil)))))))))))))
      · exact rfl
      · exact rfl
      · exact rfl
      · exact hB z6α (fun k => S k || Nat.beq k 5) false false (or_f e8 rfl) (or_f e11 rfl)
    · intro z6α S hc hk hp
      have e8 : S 8 = false := (not_yet (j := 8) (q := 3) hc (not_yet (j := 7) (q := 0) hc hk rfl rfl rfl rfl) rfl rfl rfl rfl)
      have e11 : S 11 = false := (not_yet (j := 11) (q := 1) hc (not_yet (j := 8) (q := 3) hc (not_yet (j := 7) (q := 0) hc hk rfl rfl rfl rfl) rfl rfl rfl rfl) rfl rfl rfl rfl)
      refine eq_H (H' := [.obj true z5 0 (.dat T_ref05_State_rep) z4.1, .obj true z3 0 (.dat T_ref05_State_rep) T_ref05_State_zero, .obj true z2 0 (.dat T_law05_Op_rep) x_2, .obj true z1 0 (.dat T_ref05_State_rep) m_1, .obj true 0 0 (mrep val0_0 (Rep.str) (Rep.int .i64)) s_0.kinds, .obj true 0 0 (mrep val0_1 (T_store_place_rep) (T_api_Value_rep)) s_0.set, .obj true blk0 off0 (.dat (T_store_Store_repo val0_0 val0_1)) s_0, .gone, .gone]) (by first | exact hB z6α S false false e8 e11 | (have q := hB z6α S false false e8 e11; simp only [cond_true, cond_false] at q; exact q)) ?_
      refine o_faddr field97_3 type39 (by decide) rfl rfl guard_none (look_o rfl rfl) (fun _ => rfl) ?_
      apply h_endA (α := z6α) z6α
      · exact (.same (.same (.same (.same (.same (.same (.same (.same (.same (.same (.same (.same (.same .nil)))))))))))))
      · exact rfl
      · exact rfl
      · exact rfl
      · exact hB z6α (fun k => S k || Nat.beq k 6) false false (or_f e8 rfl) (or_f e11 rfl)
    · intro z6α S hc hk hp
      have e8 : S 8 = false := (not_yet (j := 8) (q := 3) hc hk rfl rfl rfl rfl)
      have e11 : S 11 = false := (not_yet (j := 11) (q := 1) hc (not_yet (j := 8) (q := 3) hc hk rfl rfl rfl rfl) rfl rfl rfl rfl)
      refine eq_H (H' := [.obj true z5 0 (.dat T_ref05_State_rep) z4.1, .obj true z3 0 (.dat T_ref05_State_rep) T_ref05_State_zero, .obj true z2 0 (.dat T_law05_Op_rep) x_2, .obj true z1 0 (.dat T_ref05_State_rep) m_1, .obj true 0 0 (mrep val0_0 (Rep.str) (Rep.int .i64)) s_0.kinds, .obj true 0 0 (mrep val0_1 (T_store_place_rep) (T_api_Value_rep)) s_0.set, .obj true blk0 off0 (.dat (T_store_Store_repo val0_0 val0_1)) s_0, .gone, .gone]) (by first | exact hB z6α S false false e8 e11 | (have q := hB z6α S false false e8 e11; simp only [cond_true, cond_false] at q; exact q)) ?_
      refine o_oloadi 2 rfl type39 T_law05_Op_foc3 rfl guard_none (look_d rfl rfl (pr hp 0 rfl rfl)) (fun _ => rfl) ?_
      apply h_endA (α := z6α) z6α
      · exact (.same (.same (.same (.same (.same (.same (.same (.same (.same (.same (.same (.same (.same .nil)))))))))))))
      · exact rfl
      · exact rfl
      · exact rfl
      · exact hB z6α (fun k => S k || Nat.beq k 7) false false (or_f e8 rfl) (or_f e11 rfl)
    · intro z6α S hc hk hp
      have e11 : S 11 = false := (not_yet (j := 11) (q := 1) hc hk rfl rfl rfl rfl)
      refine eq_H (H' := [.obj true z5 0 (.dat T_ref05_State_rep) z4.1, .obj true z3 0 (.dat T_ref05_State_rep) T_ref05_State_zero, .obj true z2 0 (.dat T_law05_Op_rep) x_2, .obj true z1 0 (.dat T_ref05_State_rep) m_1, .obj true 0 0 (mrep val0_0 (Rep.str) (Rep.int .i64)) s_0.kinds, .obj true 0 0 (mrep val0_1 (T_store_place_rep) (T_api_Value_rep)) s_0.set, .obj true blk0 off0 (.dat (T_store_Store_repo val0_0 val0_1)) s_0, .gone, .gone]) (by first | exact hB z6α S false false hk e11 | (have q := hB z6α S false false hk e11; simp only [cond_true, cond_false] at q; exact q)) ?_
      refine o_from (bind_eqO h_z7) ?_
      refine o_weak (H' := [.obj true 0 0 (mrep val0_0 (Rep.str) (Rep.int .i64)) s_0.kinds, .obj true 0 0 (mrep val0_1 (T_store_place_rep) (T_api_Value_rep)) s_0.set, .obj true blk0 off0 (.dat (T_store_Store_repo val0_0 val0_1)) s_0] ++ ([] ++ [.obj true z5 0 (.dat T_ref05_State_rep) z4.1, .obj true z3 0 (.dat T_ref05_State_rep) T_ref05_State_zero, .obj true z2 0 (.dat T_law05_Op_rep) x_2, .obj true z1 0 (.dat T_ref05_State_rep) m_1, .gone, .gone])) (sub_pick [4, 5, 6, 0, 1, 2, 3, 7, 8] rfl rfl) ?_
      refine o_callU rfl rfl rfl rfl rfl callable21 (looks_cons (look_d rfl rfl (pr hp 0 rfl rfl)) (fun _ => rfl) (looks_cons (look_d rfl rfl (pr hp 1 rfl rfl)) (fun _ => rfl) (looks_cons (look_d rfl rfl (pr hp 2 rfl rfl)) (fun _ => rfl) (looks_cons (look_d rfl rfl (pr hp 3 rfl rfl)) (fun _ => rfl) (looks_nil))))) .nil (store_Store_Set_ok _ _ _ _ s_0 x_2.Entity x_2.Name x_2.V) (fun _ _ => (wr_c (wr_c (wr_c wr_n)))) (fun z8α => o_eqOH ?_)
      refine o_weak (H' := [.obj true 0 0 (mrep z8α.1 (Rep.str) (Rep.int .i64)) z7.2.kinds, .obj true 0 0 (mrep z8α.2 (T_store_place_rep) (T_api_Value_rep)) z7.2.set, .obj true blk0 off0 (.dat (T_store_Store_repo z8α.1 z8α.2)) z7.2, .obj true z5 0 (.dat T_ref05_State_rep) z4.1, .obj true z3 0 (.dat T_ref05_State_rep) T_ref05_State_zero, .obj true z2 0 (.dat T_law05_Op_rep) x_2, .obj true z1 0 (.dat T_ref05_State_rep) m_1, .gone, .gone]) (sub_pick [0, 1, 2, 3, 4, 5, 6, 7, 8] rfl rfl) ?_
      refine o_weak sub_gone ?_
      refine o_weak sub_gone ?_
      refine o_weak (H' := [.obj true z5 0 (.dat T_ref05_State_rep) z4.1, .obj true z3 0 (.dat T_ref05_State_rep) T_ref05_State_zero, .obj true z2 0 (.dat T_law05_Op_rep) x_2, .obj true z1 0 (.dat T_ref05_State_rep) m_1, .gone, .gone, .obj true blk0 off0 (.dat (T_store_Store_repo z8α.1 z8α.2)) z7.2, .obj true 0 0 (mrep z8α.1 (Rep.str) (Rep.int .i64)) z7.2.kinds, .obj true 0 0 (mrep z8α.2 (T_store_place_rep) (T_api_Value_rep)) z7.2.set]) (sub_pick [5, 6, 7, 8, 1, 0, 4, 2, 3] rfl rfl) ?_
      apply h_endA (α := z6α) z8α
      · exact (.same (.same (.same (.same (.same (.same (.same (.same (.same (.same (.same (.same (.same .nil)))))))))))))
      · exact rfl
      · exact rfl
      · exact rfl
      · exact hB z8α (fun k => S k || Nat.beq k 8) true false (or_i rfl) (or_f e11 rfl)
    · intro z6α S hc hk hp
      refine eq_H (H' := [.obj true z5 0 (.dat T_ref05_State_rep) z4.1, (cond (S 11) (.obj true z3 0 (.dat T_ref05_State_rep) z4.1) (.obj true z3 0 (.dat T_ref05_State_rep) T_ref05_State_zero)), .obj true z2 0 (.dat T_law05_Op_rep) x_2, .obj true z1 0 (.dat T_ref05_State_rep) m_1, (cond (S 8) (.gone) (.obj true 0 0 (mrep val0_0 (Rep.str) (Rep.int .i64)) s_0.kinds)), (cond (S 8) (.gone) (.obj true 0 0 (mrep val0_1 (T_store_place_rep) (T_api_Value_rep)) s_0.set)), (cond (S 8) (.obj true blk0 off0 (.dat (T_store_Store_repo z6α.1 z6α.2)) z7.2) (.obj true blk0 off0 (.dat (T_store_Store_repo val0_0 val0_1)) s_0)), (cond (S 8) (.obj true 0 0 (mrep (z6α.1) (Rep.str) (Rep.int .i64)) z7.2.kinds) (.gone)), (cond (S 8) (.obj true 0 0 (mrep (z6α.2) (T_store_place_rep) (T_api_Value_rep)) z7.2.set) (.gone))]) (by first | exact hB z6α S (S 8) (S 11) rfl rfl | (have q := hB z6α S (S 8) (S 11) rfl rfl; simp only [cond_true, cond_false] at q; exact q)) ?_
      refine o_move rfl rfl guard_none (look_o rfl rfl) (fun _ => rfl) ?_
      apply h_endA (α := z6α) z6α
      · exact (.same (.same (.same (.same (.same (.same (.same (.same (.same (.same (.same (.same (.same .nil)))))))))))))
      · exact rfl
      · exact rfl
      · exact rfl
      · exact hB z6α (fun k => S k || Nat.beq k 9) (S 8) (S 11) (or_ne rfl) (or_ne rfl)
    · intro z6α S hc hk hp
      have e8 : S 8 = true := (pr hp 0 rfl rfl)
      refine eq_H (H' := [.obj true z5 0 (.dat T_ref05_State_rep) z4.1, (cond (S 11) (.obj true z3 0 (.dat T_ref05_State_rep) z4.1) (.obj true z3 0 (.dat T_ref05_State_rep) T_ref05_State_zero)), .obj true z2 0 (.dat T_law05_Op_rep) x_2, .obj true z1 0 (.dat T_ref05_State_rep) m_1, .gone, .gone, .obj true blk0 off0 (.dat (T_store_Store_repo z6α.1 z6α.2)) z7.2, .obj true 0 0 (mrep (z6α.1) (Rep.str) (Rep.int .i64)) z7.2.kinds, .obj true 0 0 (mrep (z6α.2) (T_store_place_rep) (T_api_Value_rep)) z7.2.set]) (by first | exact hB z6α S true (S 11) e8 rfl | (have q := hB z6α S true (S 11) e8 rfl; simp only [cond_true, cond_false] at q; exact q)) ?_
      refine o_eql rfl rfl guard_none (look_d rfl rfl (pr hp 0 rfl rfl)) (look_d rfl rfl (pr hp 1 rfl rfl)) (fun _ => rfl) (fun _ => rfl) ?_
      apply h_endA (α := z6α) z6α
      · exact (.same (.same (.same (.same (.same (.same (.same (.same (.same (.same (.same (.same (.same .nil)))))))))))))
      · exact rfl
      · exact rfl
      · exact rfl
      · exact hB z6α (fun k => S k || Nat.beq k 10) true (S 11) (or_t e8) (or_ne rfl)
    · intro z6α S hc hk hp
      have e8 : S 8 = true := (pr hp 1 rfl rfl)
      refine eq_H (H' := [.obj true z5 0 (.dat T_ref05_State_rep) z4.1, .obj true z3 0 (.dat T_ref05_State_rep) T_ref05_State_zero, .obj true z2 0 (.dat T_law05_Op_rep) x_2, .obj true z1 0 (.dat T_ref05_State_rep) m_1, .gone, .gone, .obj true blk0 off0 (.dat (T_store_Store_repo z6α.1 z6α.2)) z7.2, .obj true 0 0 (mrep (z6α.1) (Rep.str) (Rep.int .i64)) z7.2.kinds, .obj true 0 0 (mrep (z6α.2) (T_store_place_rep) (T_api_Value_rep)) z7.2.set]) (by first | exact hB z6α S true false e8 hk | (have q := hB z6α S true false e8 hk; simp only [cond_true, cond_false] at q; exact q)) ?_
      refine o_weak (H' := [.obj true z3 0 (.dat T_ref05_State_rep) T_ref05_State_zero, .obj true z5 0 (.dat T_ref05_State_rep) z4.1, .obj true z2 0 (.dat T_law05_Op_rep) x_2, .obj true z1 0 (.dat T_ref05_State_rep) m_1, .gone, .gone, .obj true blk0 off0 (.dat (T_store_Store_repo z6α.1 z6α.2)) z7.2, .obj true 0 0 (mrep (z6α.1) (Rep.str) (Rep.int .i64)) z7.2.kinds, .obj true 0 0 (mrep (z6α.2) (T_store_place_rep) (T_api_Value_rep)) z7.2.set]) (sub_pick [1, 0, 2, 3, 4, 5, 6, 7, 8] rfl rfl) ?_
      refine o_ostore type27 foc_self guard_none (look_o rfl rfl) (fun _ => rfl) (look_d rfl rfl (pr hp 0 rfl rfl)) (fun _ => rfl) ?_
      refine o_weak (H' := [.obj true z5 0 (.dat T_ref05_State_rep) z4.1, .obj true z3 0 (.dat T_ref05_State_rep) z4.1, .obj true z2 0 (.dat T_law05_Op_rep) x_2, .obj true z1 0 (.dat T_ref05_State_rep) m_1, .gone, .gone, .obj true blk0 off0 (.dat (T_store_Store_repo z6α.1 z6α.2)) z7.2, .obj true 0 0 (mrep (z6α.1) (Rep.str) (Rep.int .i64)) z7.2.kinds, .obj true 0 0 (mrep (z6α.2) (T_store_place_rep) (T_api_Value_rep)) z7.2.set]) (sub_pick [1, 0, 2, 3, 4, 5, 6, 7, 8] rfl rfl) ?_
      refine h_none (n := 102) (d := 113) rfl rfl ?_
      apply h_endA (α := z6α) z6α
      · exact (.same (.same (.same (.same (.same (.same (.same (.same (.same (.same (.same (.same (.same .nil)))))))))))))
      · exact rfl
      · exact rfl
      · exact rfl
      · exact hB z6α (fun k => S k || Nat.beq k 11) true true (or_t e8) (or_i rfl)
    · intro z6α S hc hk hp
      have e8 : S 8 = true := (pr hp 10 rfl rfl)
      have e11 : S 11 = true := (pr hp 1 rfl rfl)
      refine eq_H (H' := [.obj true z5 0 (.dat T_ref05_State_rep) z4.1, .obj true z3 0 (.dat T_ref05_State_rep) z4.1, .obj true z2 0 (.dat T_law05_Op_rep) x_2, .obj true z1 0 (.dat T_ref05_State_rep) m_1, .gone, .gone, .obj true blk0 off0 (.dat (T_store_Store_repo z6α.1 z6α.2)) z7.2, .obj true 0 0 (mrep (z6α.1) (Rep.str) (Rep.int .i64)) z7.2.kinds, .obj true 0 0 (mrep (z6α.2) (T_store_place_rep) (T_api_Value_rep)) z7.2.set]) (by first | exact hB z6α S true true e8 e11 | (have q := hB z6α S true true e8 e11; simp only [cond_true, cond_false] at q; exact q)) ?_
      refine o_assign rfl rfl guard_none (look_d rfl rfl (pr hp 0 rfl rfl)) (fun _ => rfl) ?_
      apply h_endA (α := z6α) z6α
      · exact (.same (.same (.same (.same (.same (.same (.same (.same (.same (.same (.same (.same (.same .nil)))))))))))))
      · exact rfl
      · exact rfl
      · exact rfl
      · exact hB z6α (fun k => S k || Nat.beq k 12) true true (or_t e8) (or_t e11)
    refine den_weak (H' := [.obj true z5 0 (.dat T_ref05_State_rep) z4.1, .obj true z3 0 (.dat T_ref05_State_rep) z4.1, .obj true z2 0 (.dat T_law05_Op_rep) x_2, .obj true z1 0 (.dat T_ref05_State_rep) m_1, .obj true blk0 off0 (.dat (T_store_Store_repo z6α.1 z6α.2)) z7.2, .obj true 0 0 (mrep z6α.1 (Rep.str) (Rep.int .i64)) z7.2.kinds, .obj true 0 0 (mrep z6α.2 (T_store_place_rep) (T_api_Value_rep)) z7.2.set]) (sub_pick [0, 1, 2, 3, 6, 7, 8] rfl rfl) ?_
    refine den_code_ret ?_
    refine dene_ret ?_
    exact dene_resI (z6α.1, z6α.2) (res2 rfl (rv_cell 1 type27 rfl rfl) (rv_tmp rfl)) (fun _ _ _ k => ato_pick [5, 6, 4] rfl rfl k)
  · refine den_skip ?_
    refine den_seq ?_
    refine den_seq ?_
    refine den_region rfl ?_
    refine o_faddr field97_0 type3 (by decide) rfl rfl guard_none (look_tmp rfl) (fun _ => rfl) ?_
    refine o_oloadi 1 rfl type3 T_law05_Op_foc0 rfl guard_none (look_tmp rfl) (fun _ => rfl) ?_
    refine o_eql rfl rfl guard_none (look_tmp rfl) (look_int rfl) (fun _ => rfl) (fun _ => rfl) ?_
    refine o_end ?_
    refine den_cond (look_tmp rfl) ?_ ?_
    · refine den_seq ?_
      refine den_region rfl ?_
      refine o_move rfl rfl guard_none (look_tmp rfl) (fun _ => rfl) ?_
      refine o_faddr field97_1 type9 (by decide) rfl rfl guard_none (look_tmp rfl) (fun _ => rfl) ?_
      refine o_oloadi 1 rfl type9 T_law05_Op_foc1 rfl guard_none (look_tmp rfl) (fun _ => rfl) ?_
      refine o_faddr field97_2 type9 (by decide) rfl rfl guard_none (look_tmp rfl) (fun _ => rfl) ?_
      refine o_oloadi 1 rfl type9 T_law05_Op_foc2 rfl guard_none (look_tmp rfl) (fun _ => rfl) ?_
      refine o_weak (H' := [] ++ ([.obj true 0 0 (mrep val0_0 (Rep.str) (Rep.int .i64)) s_0.kinds, .obj true 0 0 (mrep val0_1 (T_store_place_rep) (T_api_Value_rep)) s_0.set, .obj true blk0 off0 (.dat (T_store_Store_repo val0_0 val0_1)) s_0] ++ [.obj true z3 0 (.dat T_ref05_State_rep) T_ref05_State_zero, .obj true z2 0 (.dat T_law05_Op_rep) x_2, .obj true z1 0 (.dat T_ref05_State_rep) m_1])) (sub_pick [3, 4, 5, 0, 1, 2] rfl rfl) ?_
      refine o_callU rfl rfl rfl rfl rfl callable23 (looks_cons (look_tmp rfl) (fun _ => rfl) (looks_cons (look_tmp rfl) (fun _ => rfl) (looks_cons (look_tmp rfl) (fun _ => rfl) (looks_nil)))) (.cons (.cons (.cons .nil))) (store_Store_Get_ok _ _ _ _ s_0 x_2.Entity x_2.Name) (fun _ _ => wr_n) (fun z10α z9 => ?_)
      refine o_weak (H' := [.obj true 0 0 (mrep val0_0 (Rep.str) (Rep.int .i64)) s_0.kinds, .obj true 0 0 (mrep val0_1 (T_store_place_rep) (T_api_Value_rep)) s_0.set, .obj true blk0 off0 (.dat (T_store_Store_repo val0_0 val0_1)) s_0, .obj true z3 0 (.dat T_ref05_State_rep) T_ref05_State_zero, .obj true z2 0 (.dat T_law05_Op_rep) x_2, .obj true z1 0 (.dat T_ref05_State_rep) m_1]) (sub_pick [0, 1, 2, 3, 4, 5] rfl rfl) ?_
      refine o_move rfl rfl guard_none (look_tmp rfl) (fun _ => rfl) ?_
      refine o_fst rfl rfl guard_none (look_tmp rfl) (fun _ => rfl) ?_
      refine o_snd rfl rfl guard_none (look_tmp rfl) (fun _ => rfl) ?_
      refine o_alloc zero39 rfl rfl (fun z11 => ?_)
      refine o_ostore type39 foc_self guard_none (look_tmp rfl) (fun _ => rfl) (look_tmp rfl) (fun _ => rfl) ?_
      refine o_assign rfl rfl guard_none (look_tmp rfl) (fun _ => rfl) ?_
      refine o_end ?_
      refine den_seq ?_
      refine den_region rfl ?_
      refine o_oloadi 6 rfl type27 foc_self rfl guard_none (look_tmp rfl) (fun _ => rfl) ?_
      refine o_faddr field97_1 type9 (by decide) rfl rfl guard_none (look_tmp rfl) (fun _ => rfl) ?_
      refine o_oloadi 5 rfl type9 T_law05_Op_foc1 rfl guard_none (look_tmp rfl) (fun _ => rfl) ?_
      refine o_faddr field97_2 type9 (by decide) rfl rfl guard_none (look_tmp rfl) (fun _ => rfl) ?_
      refine o_oloadi 5 rfl type9 T_law05_Op_foc2 rfl guard_none (look_tmp rfl) (fun _ => rfl) ?_
      refine o_call rfl rfl rfl callable84 (looks_cons (look_tmp rfl) (fun _ => rfl) (looks_cons (look_tmp rfl) (fun _ => rfl) (looks_cons (look_tmp rfl) (fun _ => rfl) (looks_nil)))) (ref05_Get_ok _ _ _) (fun z12 => ?_)
      refine o_move rfl rfl guard_none (look_tmp rfl) (fun _ => rfl) ?_
      refine o_fst rfl rfl guard_none (look_tmp rfl) (fun _ => rfl) ?_
      refine o_snd rfl rfl guard_none (look_tmp rfl) (fun _ => rfl) ?_
      refine o_alloc zero39 rfl rfl (fun z13 => ?_)
      refine o_ostore type39 foc_self guard_none (look_tmp rfl) (fun _ => rfl) (look_tmp rfl) (fun _ => rfl) ?_
      refine o_assign rfl rfl guard_none (look_tmp rfl) (fun _ => rfl) ?_
      refine o_end ?_
      refine den_seq ?_
      refine den_open (fun z14 h_z14 => ?_)
      have hB : ∀ (S : Nat → Bool) (b9 : Bool), S 9 = b9 → ((fun S => [.obj true z13 0 (.dat T_api_Value_rep) z12.1, .obj true z11 0 (.dat T_api_Value_rep) z9.1, .obj true 0 0 (mrep val0_0 (Rep.str) (Rep.int .i64)) s_0.kinds, .obj true 0 0 (mrep val0_1 (T_store_place_rep) (T_api_Value_rep)) s_0.set, .obj true blk0 off0 (.dat (T_store_Store_repo val0_0 val0_1)) s_0, .obj true z3 0 (.dat T_ref05_State_rep) (cond (S 9) m_1 T_ref05_State_zero), .obj true z2 0 (.dat T_law05_Op_rep) x_2, .obj true z1 0 (.dat T_ref05_State_rep) m_1] : (Nat → Bool) → List Go.Eng.Item) S) = ([.obj true z13 0 (.dat T_api_Value_rep) z12.1, .obj true z11 0 (.dat T_api_Value_rep) z9.1, .obj true 0 0 (mrep val0_0 (Rep.str) (Rep.int .i64)) s_0.kinds, .obj true 0 0 (mrep val0_1 (T_store_place_rep) (T_api_Value_rep)) s_0.set, .obj true blk0 off0 (.dat (T_store_Store_repo val0_0 val0_1)) s_0, .obj true z3 0 (.dat T_ref05_State_rep) (cond b9 m_1 T_ref05_State_zero), .obj true z2 0 (.dat T_law05_Op_rep) x_2, .obj true z1 0 (.dat T_ref05_State_rep) m_1] : List Go.Eng.Item) := fun S b9 h9 => by subst h9; rfl
      refine den_drawH (H' := [.obj true z13 0 (.dat T_api_Value_rep) z12.1, .obj true z11 0 (.dat T_api_Value_rep) z9.1, .obj true 0 0 (mrep val0_0 (Rep.str) (Rep.int .i64)) s_0.kinds, .obj true 0 0 (mrep val0_1 (T_store_place_rep) (T_api_Value_rep)) s_0.set, .obj true blk0 off0 (.dat (T_store_Store_repo val0_0 val0_1)) s_0, .obj true z3 0 (.dat T_ref05_State_rep) m_1, .obj true z2 0 (.dat T_law05_Op_rep) x_2, .obj true z1 0 (.dat T_ref05_State_rep) m_1]) [(60, ⟨T_ref05_State_rep, m_1, true⟩), (61, ⟨Rep.bool, z9.2, true⟩), (62, ⟨Rep.bool, z12.2, true⟩), (63, ⟨Rep.bool, z9.2 == z12.2, true⟩), (64, ⟨Rep.bool, z9.2 == z12.2, true⟩), (65, ⟨T_api_Value_rep, z9.1, (true && ((z9.2 == z12.2) == true))⟩), (66, ⟨T_api_Value_rep, z12.1, (true && ((z9.2 == z12.2) == true))⟩), (67, ⟨Rep.bool, z14, (true && ((z9.2 == z12.2) == true))⟩), (68, ⟨Rep.bool, cond (z9.2 == z12.2) z14 false, true⟩), (111, ⟨.any, (), false⟩), (7, ⟨Rep.bool, cond (z9.2 == z12.2) z14 false, true⟩)] (fun S => [.obj true z13 0 (.dat T_api_Value_rep) z12.1, .obj true z11 0 (.dat T_api_Value_rep) z9.1, .obj true 0 0 (mrep val0_0 (Rep.str) (Rep.int .i64)) s_0.kinds, .obj true 0 0 (mrep val0_1 (T_store_place_rep) (T_api_Value_rep)) s_0.set, .obj true blk0 off0 (.dat (T_store_Store_repo val0_0 val0_1)) s_0, .obj true z3 0 (.dat T_ref05_State_rep) (cond (S 9) m_1 T_ref05_State_zero), .obj true z2 0 (.dat T_law05_Op_rep) x_2, .obj true z1 0 (.dat T_ref05_State_rep) m_1]) mixed rfl rfl rfl (fun S hS => hB S true (hS 9 (by decide))) ⟨?_, ?_, ?_, ?_, ?_, ?_, ?_, ?_, ?_, ?_, ?_, trivial⟩ ?_
      · intro S hc hk hp
        refine o_oloadi 7 rfl type27 foc_self rfl guard_none (look_o rfl rfl) (fun _ => rfl) ?_
        exact h_end rfl rfl rfl (hB (fun k => S k || Nat.beq k 0) (S 9) (or_ne rfl))
      · intro S hc hk hp
        refine o_move rfl rfl guard_none (look_o rfl rfl) (fun _ => rfl) ?_
        exact h_end rfl rfl rfl (hB (fun k => S k || Nat.beq k 1) (S 9) (or_ne rfl))
      · intro S hc hk hp
        refine o_move rfl rfl guard_none (look_o rfl rfl) (fun _ => rfl) ?_
        exact h_end rfl rfl rfl (hB (fun k => S k || Nat.beq k 2) (S 9) (or_ne rfl))
      · intro S hc hk hp
        refine o_beql Try.underlying4 rfl rfl guard_none (look_d rfl rfl (pr hp 0 rfl rfl)) (look_d rfl rfl (pr hp 1 rfl rfl)) (fun _ => rfl) (fun _ => rfl) ?_
        exact h_end rfl rfl rfl (hB (fun k => S k || Nat.beq k 3) (S 9) (or_ne rfl))
      · intro S hc hk hp
        refine o_move rfl rfl guard_none (look_d rfl rfl (pr hp 0 rfl rfl)) (fun _ => rfl) ?_
        exact h_end rfl rfl rfl (hB (fun k => S k || Nat.beq k 4) (S 9) (or_ne rfl))
      · intro S hc hk hp
        refine o_oloadi 1 rfl type39 foc_self rfl (guard_d rfl rfl rfl rfl (pr hp 0 rfl rfl)) (look_o rfl rfl) (fun _ => rfl) ?_
        exact h_end rfl rfl rfl (hB (fun k => S k || Nat.beq k 5) (S 9) (or_ne rfl))
      · intro S hc hk hp
        refine o_oloadi 0 rfl type39 foc_self rfl (guard_d rfl rfl rfl rfl (pr hp 0 rfl rfl)) (look_o rfl rfl) (fun _ => rfl) ?_
        exact h_end rfl rfl rfl (hB (fun k => S k || Nat.beq k 6) (S 9) (or_ne rfl))
      · intro S hc hk hp
        refine o_from (bind_eqO h_z14) ?_
        refine o_callg rfl rfl rfl (guard_d rfl rfl rfl rfl (pr hp 2 rfl rfl)) callable25 (looks_cons (look_d rfl rfl (pr hp 0 rfl rfl)) (fun h => h) (looks_cons (look_d rfl rfl (pr hp 1 rfl rfl)) (fun h => h) (looks_nil))) (plain_Value_ok _ _) (o_eqO ?_)
        exact h_end rfl rfl rfl (hB (fun k => S k || Nat.beq k 7) (S 9) (or_ne rfl))
      · intro S hc hk hp
        refine o_pick rfl rfl guard_none (look_d rfl rfl (pr hp 0 rfl rfl)) (look_d rfl rfl (pr hp 1 rfl rfl)) look_bool (fun _ => rfl) (fun h1 h2 => pick_t ((fun _ => rfl) h1) h2) (fun _ _ => rfl) ?_
        exact h_end rfl rfl rfl (hB (fun k => S k || Nat.beq k 8) (S 9) (or_ne rfl))
      · intro S hc hk hp
        refine eq_H (H' := [.obj true z13 0 (.dat T_api_Value_rep) z12.1, .obj true z11 0 (.dat T_api_Value_rep) z9.1, .obj true 0 0 (mrep val0_0 (Rep.str) (Rep.int .i64)) s_0.kinds, .obj true 0 0 (mrep val0_1 (T_store_place_rep) (T_api_Value_rep)) s_0.set, .obj true blk0 off0 (.dat (T_store_Store_repo val0_0 val0_1)) s_0, .obj true z3 0 (.dat T_ref05_State_rep) T_ref05_State_zero, .obj true z2 0 (.dat T_law05_Op_rep) x_2, .obj true z1 0 (.dat T_ref05_State_rep) m_1]) (hB S false hk) ?_
        refine o_weak (H' := [.obj true z3 0 (.dat T_ref05_State_rep) T_ref05_State_zero, .obj true z13 0 (.dat T_api_Value_rep) z12.1, .obj true z11 0 (.dat T_api_Value_rep) z9.1, .obj true 0 0 (mrep val0_0 (Rep.str) (Rep.int .i64)) s_0.kinds, .obj true 0 0 (mrep val0_1 (T_store_place_rep) (T_api_Value_rep)) s_0.set, .obj true blk0 off0 (.dat (T_store_Store_repo val0_0 val0_1)) s_0, .obj true z2 0 (.dat T_law05_Op_rep) x_2, .obj true z1 0 (.dat T_ref05_State_rep) m_1]) (sub_pick [5, 0, 1, 2, 3, 4, 6, 7] rfl rfl) ?_
        refine o_ostore type27 foc_self guard_none (look_o rfl rfl) (fun _ => rfl) (look_d rfl rfl (pr hp 0 rfl rfl)) (fun _ => rfl) ?_
        refine o_weak (H' := [.obj true z13 0 (.dat T_api_Value_rep) z12.1, .obj true z11 0 (.dat T_api_Value_rep) z9.1, .obj true 0 0 (mrep val0_0 (Rep.str) (Rep.int .i64)) s_0.kinds, .obj true 0 0 (mrep val0_1 (T_store_place_rep) (T_api_Value_rep)) s_0.set, .obj true blk0 off0 (.dat (T_store_Store_repo val0_0 val0_1)) s_0, .obj true z3 0 (.dat T_ref05_State_rep) m_1, .obj true z2 0 (.dat T_law05_Op_rep) x_2, .obj true z1 0 (.dat T_ref05_State_rep) m_1]) (sub_pick [1, 2, 3, 4, 5, 0, 6, 7] rfl rfl) ?_
        refine h_none (n := 102) (d := 111) rfl rfl ?_
        exact h_end rfl rfl rfl (hB (fun k => S k || Nat.beq k 9) true (or_i rfl))
      · intro S hc hk hp
        refine o_assign rfl rfl guard_none (look_d rfl rfl (pr hp 0 rfl rfl)) (fun _ => rfl) ?_
        exact h_end rfl rfl rfl (hB (fun k => S k || Nat.beq k 10) (S 9) (or_ne rfl))
      refine den_code_ret ?_
      refine dene_ret ?_
      exact dene_resI (val0_0, val0_1) (res2 rfl (rv_cell 5 type27 rfl rfl) (rv_tmp rfl)) (fun _ _ _ k => ato_pick [2, 3, 4] rfl rfl k)
    · refine den_skip ?_
      refine den_seq ?_
      refine den_seq ?_
      refine den_region rfl ?_
      refine o_faddr field97_0 type3 (by decide) rfl rfl guard_none (look_tmp rfl) (fun _ => rfl) ?_
      refine o_oloadi 1 rfl type3 T_law05_Op_foc0 rfl guard_none (look_tmp rfl) (fun _ => rfl) ?_
      refine o_eql rfl rfl guard_none (look_tmp rfl) (look_int rfl) (fun _ => rfl) (fun _ => rfl) ?_
      refine o_end ?_
      refine den_cond (look_tmp rfl) ?_ ?_
      · refine den_seq ?_
        refine den_open (fun z15 h_z15 => ?_)
        refine den_open (fun z17 h_z17 => ?_)
        have hB : ∀ (S : Nat → Bool) (b10 : Bool), S 10 = b10 → ((fun S => [.obj true z3 0 (.dat T_ref05_State_rep) (cond (S 10) m_1 T_ref05_State_zero), .obj true z2 0 (.dat T_law05_Op_rep) x_2, .obj true z1 0 (.dat T_ref05_State_rep) m_1, .obj true 0 0 (mrep val0_0 (Rep.str) (Rep.int .i64)) s_0.kinds, .obj true 0 0 (mrep val0_1 (T_store_place_rep) (T_api_Value_rep)) s_0.set, .obj true blk0 off0 (.dat (T_store_Store_repo val0_0 val0_1)) s_0] : (Nat → Bool) → List Go.Eng.Item) S) = ([.obj true z3 0 (.dat T_ref05_State_rep) (cond b10 m_1 T_ref05_State_zero), .obj true z2 0 (.dat T_law05_Op_rep) x_2, .obj true z1 0 (.dat T_ref05_State_rep) m_1, .obj true 0 0 (mrep val0_0 (Rep.str) (Rep.int .i64)) s_0.kinds, .obj true 0 0 (mrep val0_1 (T_store_place_rep) (T_api_Value_rep)) s_0.set, .obj true blk0 off0 (.dat (T_store_Store_repo val0_0 val0_1)) s_0] : List Go.Eng.Item) := fun S b10 h10 => by subst h10; rfl
        refine den_drawH (H' := [.obj true z3 0 (.dat T_ref05_State_rep) m_1, .obj true z2 0 (.dat T_law05_Op_rep) x_2, .obj true z1 0 (.dat T_ref05_State_rep) m_1, .obj true 0 0 (mrep val0_0 (Rep.str) (Rep.int .i64)) s_0.kinds, .obj true 0 0 (mrep val0_1 (T_store_place_rep) (T_api_Value_rep)) s_0.set, .obj true blk0 off0 (.dat (T_store_Store_repo val0_0 val0_1)) s_0]) [(72, ⟨T_ref05_State_rep, m_1, true⟩), (73, ⟨Rep.addr, (blk0, off0), true⟩), (74, ⟨Rep.addr, (z2, 0 + 2), true⟩), (75, ⟨Rep.str, x_2.Name, true⟩), (76, ⟨Rep.int .i64, z15, true⟩), (77, ⟨T_ref05_State_rep, m_1, true⟩), (78, ⟨Rep.addr, (z2, 0 + 2), true⟩), (79, ⟨Rep.str, x_2.Name, true⟩), (80, ⟨Rep.int .i64, z17, true⟩), (81, ⟨Rep.bool, z15 == z17, true⟩), (112, ⟨.any, (), false⟩), (7, ⟨Rep.bool, z15 == z17, true⟩)] (fun S => [.obj true z3 0 (.dat T_ref05_State_rep) (cond (S 10) m_1 T_ref05_State_zero), .obj true z2 0 (.dat T_law05_Op_rep) x_2, .obj true z1 0 (.dat T_ref05_State_rep) m_1, .obj true 0 0 (mrep val0_0 (Rep.str) (Rep.int .i64)) s_0.kinds, .obj true 0 0 (mrep val0_1 (T_store_place_rep) (T_api_Value_rep)) s_0.set, .obj true blk0 off0 (.dat (T_store_Store_repo val0_0 val0_1)) s_0]) mixed rfl rfl rfl (fun S hS => hB S true (hS 10 (by decide))) ⟨?_, ?_, ?_, ?_, ?_, ?_, ?_, ?_, ?_, ?_, ?_, ?_, trivial⟩ ?_
        · intro S hc hk hp
          refine o_oloadi 2 rfl type27 foc_self rfl guard_none (look_o rfl rfl) (fun _ => rfl) ?_
          exact h_end rfl rfl rfl (hB (fun k => S k || Nat.beq k 0) (S 10) (or_ne rfl))
        · intro S hc hk hp
          refine o_move rfl rfl guard_none (look_o rfl rfl) (fun _ => rfl) ?_
          exact h_end rfl rfl rfl (hB (fun k => S k || Nat.beq k 1) (S 10) (or_ne rfl))
        · intro S hc hk hp
          refine o_faddr field97_2 type9 (by decide) rfl rfl guard_none (look_o rfl rfl) (fun _ => rfl) ?_
          exact h_end rfl rfl rfl (hB (fun k => S k || Nat.beq k 2) (S 10) (or_ne rfl))
        · intro S hc hk hp
          refine o_oloadi 1 rfl type9 T_law05_Op_foc2 rfl guard_none (look_d rfl rfl (pr hp 0 rfl rfl)) (fun _ => rfl) ?_
          exact h_end rfl rfl rfl (hB (fun k => S k || Nat.beq k 3) (S 10) (or_ne rfl))
        · intro S hc hk hp
          refine o_from (bind_eqO h_z15) ?_
          refine eq_H (H' := [.obj true z3 0 (.dat T_ref05_State_rep) (cond (S 10) m_1 T_ref05_State_zero), .obj true z2 0 (.dat T_law05_Op_rep) x_2, .obj true z1 0 (.dat T_ref05_State_rep) m_1, .obj true 0 0 (mrep val0_0 (Rep.str) (Rep.int .i64)) s_0.kinds, .obj true 0 0 (mrep val0_1 (T_store_place_rep) (T_api_Value_rep)) s_0.set, .obj true blk0 off0 (.dat (T_store_Store_repo val0_0 val0_1)) s_0]) (hB S (S 10) rfl) ?_
          refine o_weak (H' := [] ++ ([.obj true 0 0 (mrep val0_0 (Rep.str) (Rep.int .i64)) s_0.kinds, .obj true 0 0 (mrep val0_1 (T_store_place_rep) (T_api_Value_rep)) s_0.set, .obj true blk0 off0 (.dat (T_store_Store_repo val0_0 val0_1)) s_0] ++ [.obj true z3 0 (.dat T_ref05_State_rep) (cond (S 10) m_1 T_ref05_State_zero), .obj true z2 0 (.dat T_law05_Op_rep) x_2, .obj true z1 0 (.dat T_ref05_State_rep) m_1])) (sub_pick [3, 4, 5, 0, 1, 2] rfl rfl) ?_
          refine o_callU rfl rfl rfl rfl rfl callable28 (looks_cons (look_d rfl rfl (pr hp 0 rfl rfl)) (fun _ => rfl) (looks_cons (look_d rfl rfl (pr hp 1 rfl rfl)) (fun _ => rfl) (looks_nil))) (.cons (.cons (.cons .nil))) (store_Store_Kind_ok _ _ _ _ s_0 x_2.Name) (fun _ _ => wr_n) (fun _ => o_eqOH ?_)
          refine o_weak (H' := [.obj true z3 0 (.dat T_ref05_State_rep) (cond (S 10) m_1 T_ref05_State_zero), .obj true z2 0 (.dat T_law05_Op_rep) x_2, .obj true z1 0 (.dat T_ref05_State_rep) m_1, .obj true 0 0 (mrep val0_0 (Rep.str) (Rep.int .i64)) s_0.kinds, .obj true 0 0 (mrep val0_1 (T_store_place_rep) (T_api_Value_rep)) s_0.set, .obj true blk0 off0 (.dat (T_store_Store_repo val0_0 val0_1)) s_0]) (sub_pick [3, 4, 5, 0, 1, 2] rfl rfl) ?_
          exact h_end rfl rfl rfl (hB (fun k => S k || Nat.beq k 4) (S 10) (or_ne rfl))
        · intro S hc hk hp
          refine o_oloadi 2 rfl type27 foc_self rfl guard_none (look_o rfl rfl) (fun _ => rfl) ?_
          exact h_end rfl rfl rfl (hB (fun k => S k || Nat.beq k 5) (S 10) (or_ne rfl))
        · intro S hc hk hp
          refine o_faddr field97_2 type9 (by decide) rfl rfl guard_none (look_o rfl rfl) (fun _ => rfl) ?_
          exact h_end rfl rfl rfl (hB (fun k => S k || Nat.beq k 6) (S 10) (or_ne rfl))
        · intro S hc hk hp
          refine o_oloadi 1 rfl type9 T_law05_Op_foc2 rfl guard_none (look_d rfl rfl (pr hp 0 rfl rfl)) (fun _ => rfl) ?_
          exact h_end rfl rfl rfl (hB (fun k => S k || Nat.beq k 7) (S 10) (or_ne rfl))
        · intro S hc hk hp
          refine o_from (bind_eqO h_z17) ?_
          refine o_call rfl rfl rfl callable85 (looks_cons (look_d rfl rfl (pr hp 0 rfl rfl)) (fun _ => rfl) (looks_cons (look_d rfl rfl (pr hp 1 rfl rfl)) (fun _ => rfl) (looks_nil))) (ref05_Kind_ok _ _) (o_eqO ?_)
          exact h_end rfl rfl rfl (hB (fun k => S k || Nat.beq k 8) (S 10) (or_ne rfl))
        · intro S hc hk hp
          refine o_eql rfl rfl guard_none (look_d rfl rfl (pr hp 0 rfl rfl)) (look_d rfl rfl (pr hp 1 rfl rfl)) (fun _ => rfl) (fun _ => rfl) ?_
          exact h_end rfl rfl rfl (hB (fun k => S k || Nat.beq k 9) (S 10) (or_ne rfl))
        · intro S hc hk hp
          refine eq_H (H' := [.obj true z3 0 (.dat T_ref05_State_rep) T_ref05_State_zero, .obj true z2 0 (.dat T_law05_Op_rep) x_2, .obj true z1 0 (.dat T_ref05_State_rep) m_1, .obj true 0 0 (mrep val0_0 (Rep.str) (Rep.int .i64)) s_0.kinds, .obj true 0 0 (mrep val0_1 (T_store_place_rep) (T_api_Value_rep)) s_0.set, .obj true blk0 off0 (.dat (T_store_Store_repo val0_0 val0_1)) s_0]) (hB S false hk) ?_
          refine o_ostore type27 foc_self guard_none (look_o rfl rfl) (fun _ => rfl) (look_d rfl rfl (pr hp 0 rfl rfl)) (fun _ => rfl) ?_
          refine o_weak (H' := [.obj true z3 0 (.dat T_ref05_State_rep) m_1, .obj true z2 0 (.dat T_law05_Op_rep) x_2, .obj true z1 0 (.dat T_ref05_State_rep) m_1, .obj true 0 0 (mrep val0_0 (Rep.str) (Rep.int .i64)) s_0.kinds, .obj true 0 0 (mrep val0_1 (T_store_place_rep) (T_api_Value_rep)) s_0.set, .obj true blk0 off0 (.dat (T_store_Store_repo val0_0 val0_1)) s_0]) (sub_pick [0, 1, 2, 3, 4, 5] rfl rfl) ?_
          refine h_none (n := 102) (d := 112) rfl rfl ?_
          exact h_end rfl rfl rfl (hB (fun k => S k || Nat.beq k 10) true (or_i rfl))
        · intro S hc hk hp
          refine o_assign rfl rfl guard_none (look_d rfl rfl (pr hp 0 rfl rfl)) (fun _ => rfl) ?_
          exact h_end rfl rfl rfl (hB (fun k => S k || Nat.beq k 11) (S 10) (or_ne rfl))
        refine den_code_ret ?_
        refine dene_ret ?_
        exact dene_resI (val0_0, val0_1) (res2 rfl (rv_cell 0 type27 rfl rfl) (rv_tmp rfl)) (fun _ _ _ k => ato_pick [3, 4, 5] rfl rfl k)
      · refine den_skip ?_
        refine den_seq ?_
        refine den_seq ?_
        refine den_region rfl ?_
        refine o_faddr field97_0 type3 (by decide) rfl rfl guard_none (look_tmp rfl) (fun _ => rfl) ?_
        refine o_oloadi 1 rfl type3 T_law05_Op_foc0 rfl guard_none (look_tmp rfl) (fun _ => rfl) ?_
        refine o_eql rfl rfl guard_none (look_tmp rfl) (look_int rfl) (fun _ => rfl) (fun _ => rfl) ?_
        refine o_end ?_
        refine den_cond (look_tmp rfl) ?_ ?_
        · refine den_seq ?_
          refine den_open (fun z18 h_z18 => ?_)
          refine den_open (fun z20 h_z20 => ?_)
          refine den_open (fun z21 h_z21 => ?_)
          have hB : ∀ (S : Nat → Bool) (b10 : Bool), S 10 = b10 → ((fun S => [.obj true z3 0 (.dat T_ref05_State_rep) (cond (S 10) m_1 T_ref05_State_zero), .obj true z2 0 (.dat T_law05_Op_rep) x_2, .obj true z1 0 (.dat T_ref05_State_rep) m_1, .obj true 0 0 (mrep val0_0 (Rep.str) (Rep.int .i64)) s_0.kinds, .obj true 0 0 (mrep val0_1 (T_store_place_rep) (T_api_Value_rep)) s_0.set, .obj true blk0 off0 (.dat (T_store_Store_repo val0_0 val0_1)) s_0] : (Nat → Bool) → List Go.Eng.Item) S) = ([.obj true z3 0 (.dat T_ref05_State_rep) (cond b10 m_1 T_ref05_State_zero), .obj true z2 0 (.dat T_law05_Op_rep) x_2, .obj true z1 0 (.dat T_ref05_State_rep) m_1, .obj true 0 0 (mrep val0_0 (Rep.str) (Rep.int .i64)) s_0.kinds, .obj true 0 0 (mrep val0_1 (T_store_place_rep) (T_api_Value_rep)) s_0.set, .obj true blk0 off0 (.dat (T_store_Store_repo val0_0 val0_1)) s_0] : List Go.Eng.Item) := fun S b10 h10 => by subst h10; rfl
          refine den_drawH (H' := [.obj true z3 0 (.dat T_ref05_State_rep) m_1, .obj true z2 0 (.dat T_law05_Op_rep) x_2, .obj true z1 0 (.dat T_ref05_State_rep) m_1, .obj true 0 0 (mrep val0_0 (Rep.str) (Rep.int .i64)) s_0.kinds, .obj true 0 0 (mrep val0_1 (T_store_place_rep) (T_api_Value_rep)) s_0.set, .obj true blk0 off0 (.dat (T_store_Store_repo val0_0 val0_1)) s_0]) [(85, ⟨T_ref05_State_rep, m_1, true⟩), (86, ⟨Rep.addr, (blk0, off0), true⟩), (87, ⟨Rep.addr, (z2, 0 + 1), true⟩), (88, ⟨Rep.str, x_2.Entity, true⟩), (89, ⟨(Rep.str).slice, z18, true⟩), (90, ⟨T_ref05_State_rep, m_1, true⟩), (91, ⟨Rep.addr, (z2, 0 + 1), true⟩), (92, ⟨Rep.str, x_2.Entity, true⟩), (93, ⟨(Rep.str).slice, z20, true⟩), (94, ⟨Rep.bool, z21, true⟩), (112, ⟨.any, (), false⟩), (7, ⟨Rep.bool, z21, true⟩)] (fun S => [.obj true z3 0 (.dat T_ref05_State_rep) (cond (S 10) m_1 T_ref05_State_zero), .obj true z2 0 (.dat T_law05_Op_rep) x_2, .obj true z1 0 (.dat T_ref05_State_rep) m_1, .obj true 0 0 (mrep val0_0 (Rep.str) (Rep.int .i64)) s_0.kinds, .obj true 0 0 (mrep val0_1 (T_store_place_rep) (T_api_Value_rep)) s_0.set, .obj true blk0 off0 (.dat (T_store_Store_repo val0_0 val0_1)) s_0]) mixed rfl rfl rfl (fun S hS => hB S true (hS 10 (by decide))) ⟨?_, ?_, ?_, ?_, ?_, ?_, ?_, ?_, ?_, ?_, ?_, ?_, trivial⟩ ?_
          · intro S hc hk hp
            refine o_oloadi 2 rfl type27 foc_self rfl guard_none (look_o rfl rfl) (fun _ => rfl) ?_
            exact h_end rfl rfl rfl (hB (fun k => S k || Nat.beq k 0) (S 10) (or_ne rfl))
          · intro S hc hk hp
            refine o_move rfl rfl guard_none (look_o rfl rfl) (fun _ => rfl) ?_
            exact h_end rfl rfl rfl (hB (fun k => S k || Nat.beq k 1) (S 10) (or_ne rfl))
          · intro S hc hk hp
            refine o_faddr field97_1 type9 (by decide) rfl rfl guard_none (look_o rfl rfl) (fun _ => rfl) ?_
            exact h_end rfl rfl rfl (hB (fun k => S k || Nat.beq k 2) (S 10) (or_ne rfl))
          · intro S hc hk hp
            refine o_oloadi 1 rfl type9 T_law05_Op_foc1 rfl guard_none (look_d rfl rfl (pr hp 0 rfl rfl)) (fun _ => rfl) ?_
            exact h_end rfl rfl rfl (hB (fun k => S k || Nat.beq k 3) (S 10) (or_ne rfl))
          · intro S hc hk hp
            refine o_from (bind_eqO h_z18) ?_
            refine eq_H (H' := [.obj true z3 0 (.dat T_ref05_State_rep) (cond (S 10) m_1 T_ref05_State_zero), .obj true z2 0 (.dat T_law05_Op_rep) x_2, .obj true z1 0 (.dat T_ref05_State_rep) m_1, .obj true 0 0 (mrep val0_0 (Rep.str) (Rep.int .i64)) s_0.kinds, .obj true 0 0 (mrep val0_1 (T_store_place_rep) (T_api_Value_rep)) s_0.set, .obj true blk0 off0 (.dat (T_store_Store_repo val0_0 val0_1)) s_0]) (hB S (S 10) rfl) ?_
            refine o_weak (H' := [] ++ ([.obj true 0 0 (mrep val0_0 (Rep.str) (Rep.int .i64)) s_0.kinds, .obj true 0 0 (mrep val0_1 (T_store_place_rep) (T_api_Value_rep)) s_0.set, .obj true blk0 off0 (.dat (T_store_Store_repo val0_0 val0_1)) s_0] ++ [.obj true z3 0 (.dat T_ref05_State_rep) (cond (S 10) m_1 T_ref05_State_zero), .obj true z2 0 (.dat T_law05_Op_rep) x_2, .obj true z1 0 (.dat T_ref05_State_rep) m_1])) (sub_pick [3, 4, 5, 0, 1, 2] rfl rfl) ?_
            refine o_callU rfl rfl rfl rfl rfl callable27 (looks_cons (look_d rfl rfl (pr hp 0 rfl rfl)) (fun _ => rfl) (looks_cons (look_d rfl rfl (pr hp 1 rfl rfl)) (fun _ => rfl) (looks_nil))) (.cons (.cons (.cons .nil))) (fun_frozen (store_Store_Names_ok _ _ _ _ s_0 x_2.Entity)) (fun _ _ => wr_n) (fun _ => o_eqOH ?_)
            refine o_weak (H' := [.obj true z3 0 (.dat T_ref05_State_rep) (cond (S 10) m_1 T_ref05_State_zero), .obj true z2 0 (.dat T_law05_Op_rep) x_2, .obj true z1 0 (.dat T_ref05_State_rep) m_1, .obj true 0 0 (mrep val0_0 (Rep.str) (Rep.int .i64)) s_0.kinds, .obj true 0 0 (mrep val0_1 (T_store_place_rep) (T_api_Value_rep)) s_0.set, .obj true blk0 off0 (.dat (T_store_Store_repo val0_0 val0_1)) s_0]) (sub_pick [3, 4, 5, 0, 1, 2] rfl rfl) ?_
            exact h_end rfl rfl rfl (hB (fun k => S k || Nat.beq k 4) (S 10) (or_ne rfl))
          · intro S hc hk hp
            refine o_oloadi 2 rfl type27 foc_self rfl guard_none (look_o rfl rfl) (fun _ => rfl) ?_
            exact h_end rfl rfl rfl (hB (fun k => S k || Nat.beq k 5) (S 10) (or_ne rfl))
          · intro S hc hk hp
            refine o_faddr field97_1 type9 (by decide) rfl rfl guard_none (look_o rfl rfl) (fun _ => rfl) ?_
            exact h_end rfl rfl rfl (hB (fun k => S k || Nat.beq k 6) (S 10) (or_ne rfl))
          · intro S hc hk hp
            refine o_oloadi 1 rfl type9 T_law05_Op_foc1 rfl guard_none (look_d rfl rfl (pr hp 0 rfl rfl)) (fun _ => rfl) ?_
            exact h_end rfl rfl rfl (hB (fun k => S k || Nat.beq k 7) (S 10) (or_ne rfl))
          · intro S hc hk hp
            refine o_from (bind_eqO h_z20) ?_
            refine o_call rfl rfl rfl callable86 (looks_cons (look_d rfl rfl (pr hp 0 rfl rfl)) (fun _ => rfl) (looks_cons (look_d rfl rfl (pr hp 1 rfl rfl)) (fun _ => rfl) (looks_nil))) (law05_names_ok _ _) (o_eqO ?_)
            exact h_end rfl rfl rfl (hB (fun k => S k || Nat.beq k 8) (S 10) (or_ne rfl))
          · intro S hc hk hp
            refine o_from (bind_eqO h_z21) ?_
            refine o_call rfl rfl rfl callable24 (looks_cons (look_d rfl rfl (pr hp 0 rfl rfl)) (fun _ => rfl) (looks_cons (look_d rfl rfl (pr hp 1 rfl rfl)) (fun _ => rfl) (looks_nil))) (plain_Texts_ok _ _) (o_eqO ?_)
            exact h_end rfl rfl rfl (hB (fun k => S k || Nat.beq k 9) (S 10) (or_ne rfl))
          · intro S hc hk hp
            refine eq_H (H' := [.obj true z3 0 (.dat T_ref05_State_rep) T_ref05_State_zero, .obj true z2 0 (.dat T_law05_Op_rep) x_2, .obj true z1 0 (.dat T_ref05_State_rep) m_1, .obj true 0 0 (mrep val0_0 (Rep.str) (Rep.int .i64)) s_0.kinds, .obj true 0 0 (mrep val0_1 (T_store_place_rep) (T_api_Value_rep)) s_0.set, .obj true blk0 off0 (.dat (T_store_Store_repo val0_0 val0_1)) s_0]) (hB S false hk) ?_
            refine o_ostore type27 foc_self guard_none (look_o rfl rfl) (fun _ => rfl) (look_d rfl rfl (pr hp 0 rfl rfl)) (fun _ => rfl) ?_
            refine o_weak (H' := [.obj true z3 0 (.dat T_ref05_State_rep) m_1, .obj true z2 0 (.dat T_law05_Op_rep) x_2, .obj true z1 0 (.dat T_ref05_State_rep) m_1, .obj true 0 0 (mrep val0_0 (Rep.str) (Rep.int .i64)) s_0.kinds, .obj true 0 0 (mrep val0_1 (T_store_place_rep) (T_api_Value_rep)) s_0.set, .obj true blk0 off0 (.dat (T_store_Store_repo val0_0 val0_1)) s_0]) (sub_pick [0, 1, 2, 3, 4, 5] rfl rfl) ?_
            refine h_none (n := 102) (d := 112) rfl rfl ?_
            exact h_end rfl rfl rfl (hB (fun k => S k || Nat.beq k 10) true (or_i rfl))
          · intro S hc hk hp
            refine o_assign rfl rfl guard_none (look_d rfl rfl (pr hp 0 rfl rfl)) (fun _ => rfl) ?_
            exact h_end rfl rfl rfl (hB (fun k => S k || Nat.beq k 11) (S 10) (or_ne rfl))
          refine den_code_ret ?_
          refine dene_ret ?_
          exact dene_resI (val0_0, val0_1) (res2 rfl (rv_cell 0 type27 rfl rfl) (rv_tmp rfl)) (fun _ _ _ k => ato_pick [3, 4, 5] rfl rfl k)
        · refine den_skip ?_
          refine den_seq ?_
          refine den_open (fun z22 h_z22 => ?_)
          have hB : ∀ (S : Nat → Bool) (b7 : Bool), S 7 = b7 → ((fun S => [.obj true z3 0 (.dat T_ref05_State_rep) (cond (S 7) m_1 T_ref05_State_zero), .obj true z2 0 (.dat T_law05_Op_rep) x_2, .obj true z1 0 (.dat T_ref05_State_rep) m_1, .obj true 0 0 (mrep val0_0 (Rep.str) (Rep.int .i64)) s_0.kinds, .obj true 0 0 (mrep val0_1 (T_store_place_rep) (T_api_Value_rep)) s_0.set, .obj true blk0 off0 (.dat (T_store_Store_repo val0_0 val0_1)) s_0] : (Nat → Bool) → List Go.Eng.Item) S) = ([.obj true z3 0 (.dat T_ref05_State_rep) (cond b7 m_1 T_ref05_State_zero), .obj true z2 0 (.dat T_law05_Op_rep) x_2, .obj true z1 0 (.dat T_ref05_State_rep) m_1, .obj true 0 0 (mrep val0_0 (Rep.str) (Rep.int .i64)) s_0.kinds, .obj true 0 0 (mrep val0_1 (T_store_place_rep) (T_api_Value_rep)) s_0.set, .obj true blk0 off0 (.dat (T_store_Store_repo val0_0 val0_1)) s_0] : List Go.Eng.Item) := fun S b7 h7 => by subst h7; rfl
          refine den_drawH (H' := [.obj true z3 0 (.dat T_ref05_State_rep) m_1, .obj true z2 0 (.dat T_law05_Op_rep) x_2, .obj true z1 0 (.dat T_ref05_State_rep) m_1, .obj true 0 0 (mrep val0_0 (Rep.str) (Rep.int .i64)) s_0.kinds, .obj true 0 0 (mrep val0_1 (T_store_place_rep) (T_api_Value_rep)) s_0.set, .obj true blk0 off0 (.dat (T_store_Store_repo val0_0 val0_1)) s_0]) [(95, ⟨T_ref05_State_rep, m_1, true⟩), (96, ⟨Rep.addr, (blk0, off0), true⟩), (97, ⟨Rep.int .i64, z22, true⟩), (98, ⟨Rep.addr, (z1, 0 + 1), true⟩), (99, ⟨(T_ref05_Cell_rep).slice, m_1.Cells, true⟩), (100, ⟨Rep.int .i64, (m_1.Cells.length : Int), true⟩), (101, ⟨Rep.bool, z22 == (m_1.Cells.length : Int), true⟩), (109, ⟨.any, (), false⟩), (7, ⟨Rep.bool, z22 == (m_1.Cells.length : Int), true⟩)] (fun S => [.obj true z3 0 (.dat T_ref05_State_rep) (cond (S 7) m_1 T_ref05_State_zero), .obj true z2 0 (.dat T_law05_Op_rep) x_2, .obj true z1 0 (.dat T_ref05_State_rep) m_1, .obj true 0 0 (mrep val0_0 (Rep.str) (Rep.int .i64)) s_0.kinds, .obj true 0 0 (mrep val0_1 (T_store_place_rep) (T_api_Value_rep)) s_0.set, .obj true blk0 off0 (.dat (T_store_Store_repo val0_0 val0_1)) s_0]) mixed rfl rfl rfl (fun S hS => hB S true (hS 7 (by decide))) ⟨?_, ?_, ?_, ?_, ?_, ?_, ?_, ?_, ?_, trivial⟩ ?_
          · intro S hc hk hp
            refine o_oloadi 2 rfl type27 foc_self rfl guard_none (look_o rfl rfl) (fun _ => rfl) ?_
            exact h_end rfl rfl rfl (hB (fun k => S k || Nat.beq k 0) (S 7) (or_ne rfl))
          · intro S hc hk hp
            refine o_move rfl rfl guard_none (look_o rfl rfl) (fun _ => rfl) ?_
            exact h_end rfl rfl rfl (hB (fun k => S k || Nat.beq k 1) (S 7) (or_ne rfl))
          · intro S hc hk hp
            refine o_from (bind_eqO h_z22) ?_
            refine eq_H (H' := [.obj true z3 0 (.dat T_ref05_State_rep) (cond (S 7) m_1 T_ref05_State_zero), .obj true z2 0 (.dat T_law05_Op_rep) x_2, .obj true z1 0 (.dat T_ref05_State_rep) m_1, .obj true 0 0 (mrep val0_0 (Rep.str) (Rep.int .i64)) s_0.kinds, .obj true 0 0 (mrep val0_1 (T_store_place_rep) (T_api_Value_rep)) s_0.set, .obj true blk0 off0 (.dat (T_store_Store_repo val0_0 val0_1)) s_0]) (hB S (S 7) rfl) ?_
            refine o_weak (H' := [] ++ ([.obj true 0 0 (mrep val0_0 (Rep.str) (Rep.int .i64)) s_0.kinds, .obj true 0 0 (mrep val0_1 (T_store_place_rep) (T_api_Value_rep)) s_0.set, .obj true blk0 off0 (.dat (T_store_Store_repo val0_0 val0_1)) s_0] ++ [.obj true z3 0 (.dat T_ref05_State_rep) (cond (S 7) m_1 T_ref05_State_zero), .obj true z2 0 (.dat T_law05_Op_rep) x_2, .obj true z1 0 (.dat T_ref05_State_rep) m_1])) (sub_pick [3, 4, 5, 0, 1, 2] rfl rfl) ?_
            refine o_callU rfl rfl rfl rfl rfl callable26 (looks_cons (look_d rfl rfl (pr hp 0 rfl rfl)) (fun _ => rfl) (looks_nil)) (.cons (.cons (.cons .nil))) (store_Store_Count_ok _ _ _ _ s_0) (fun _ _ => wr_n) (fun _ => o_eqOH ?_)
            refine o_weak (H' := [.obj true z3 0 (.dat T_ref05_State_rep) (cond (S 7) m_1 T_ref05_State_zero), .obj true z2 0 (.dat T_law05_Op_rep) x_2, .obj true z1 0 (.dat T_ref05_State_rep) m_1, .obj true 0 0 (mrep val0_0 (Rep.str) (Rep.int .i64)) s_0.kinds, .obj true 0 0 (mrep val0_1 (T_store_place_rep) (T_api_Value_rep)) s_0.set, .obj true blk0 off0 (.dat (T_store_Store_repo val0_0 val0_1)) s_0]) (sub_pick [3, 4, 5, 0, 1, 2] rfl rfl) ?_
            exact h_end rfl rfl rfl (hB (fun k => S k || Nat.beq k 2) (S 7) (or_ne rfl))
          · intro S hc hk hp
            refine o_faddr field27_1 type25 (by decide) rfl rfl guard_none (look_o rfl rfl) (fun _ => rfl) ?_
            exact h_end rfl rfl rfl (hB (fun k => S k || Nat.beq k 3) (S 7) (or_ne rfl))
          · intro S hc hk hp
            refine o_oloadi 2 rfl type25 T_ref05_State_foc1 rfl guard_none (look_d rfl rfl (pr hp 0 rfl rfl)) (fun _ => rfl) ?_
            exact h_end rfl rfl rfl (hB (fun k => S k || Nat.beq k 4) (S 7) (or_ne rfl))
          · intro S hc hk hp
            refine o_llen Try.underlying25 rfl rfl guard_none (look_d rfl rfl (pr hp 0 rfl rfl)) (fun _ => rfl) ?_
            exact h_end rfl rfl rfl (hB (fun k => S k || Nat.beq k 5) (S 7) (or_ne rfl))
          · intro S hc hk hp
            refine o_eql rfl rfl guard_none (look_d rfl rfl (pr hp 0 rfl rfl)) (look_d rfl rfl (pr hp 1 rfl rfl)) (fun _ => rfl) (fun _ => rfl) ?_
            exact h_end rfl rfl rfl (hB (fun k => S k || Nat.beq k 6) (S 7) (or_ne rfl))
          · intro S hc hk hp
            refine eq_H (H' := [.obj true z3 0 (.dat T_ref05_State_rep) T_ref05_State_zero, .obj true z2 0 (.dat T_law05_Op_rep) x_2, .obj true z1 0 (.dat T_ref05_State_rep) m_1, .obj true 0 0 (mrep val0_0 (Rep.str) (Rep.int .i64)) s_0.kinds, .obj true 0 0 (mrep val0_1 (T_store_place_rep) (T_api_Value_rep)) s_0.set, .obj true blk0 off0 (.dat (T_store_Store_repo val0_0 val0_1)) s_0]) (hB S false hk) ?_
            refine o_ostore type27 foc_self guard_none (look_o rfl rfl) (fun _ => rfl) (look_d rfl rfl (pr hp 0 rfl rfl)) (fun _ => rfl) ?_
            refine o_weak (H' := [.obj true z3 0 (.dat T_ref05_State_rep) m_1, .obj true z2 0 (.dat T_law05_Op_rep) x_2, .obj true z1 0 (.dat T_ref05_State_rep) m_1, .obj true 0 0 (mrep val0_0 (Rep.str) (Rep.int .i64)) s_0.kinds, .obj true 0 0 (mrep val0_1 (T_store_place_rep) (T_api_Value_rep)) s_0.set, .obj true blk0 off0 (.dat (T_store_Store_repo val0_0 val0_1)) s_0]) (sub_pick [0, 1, 2, 3, 4, 5] rfl rfl) ?_
            refine h_none (n := 102) (d := 109) rfl rfl ?_
            exact h_end rfl rfl rfl (hB (fun k => S k || Nat.beq k 7) true (or_i rfl))
          · intro S hc hk hp
            refine o_assign rfl rfl guard_none (look_d rfl rfl (pr hp 0 rfl rfl)) (fun _ => rfl) ?_
            exact h_end rfl rfl rfl (hB (fun k => S k || Nat.beq k 8) (S 7) (or_ne rfl))
          refine den_code_ret ?_
          exact dene_resI (val0_0, val0_1) (res2 rfl (rv_cell 0 type27 rfl rfl) (rv_tmp rfl)) (fun _ _ _ k => ato_pick [3, 4, 5] rfl rfl k)

theorem law05_run_ok (blk0 : Nat) (off0 : Nat) (val0_0 : Value) (val0_1 : Value) (s_0 : T_store_Store) (m_1 : T_ref05_State) (l_2 : (List T_law05_Op)) : FunOkI Try.prog 16 [⟨.addr, (blk0, off0), true⟩, ⟨T_ref05_State_rep, m_1, true⟩, ⟨(T_law05_Op_rep).slice, l_2, true⟩] [.obj true 0 0 (mrep val0_0 (Rep.str) (Rep.int .i64)) s_0.kinds, .obj true 0 0 (mrep val0_1 (T_store_place_rep) (T_api_Value_rep)) s_0.set, .obj true blk0 off0 (.dat (T_store_Store_repo val0_0 val0_1)) s_0] (law05_run s_0 m_1 l_2) (Rep.pair (T_ref05_State_rep) (Rep.bool)) (fun (α : (Value × Value)) (y : (T_ref05_State × Bool × T_store_Store)) => (y.1, y.2.1)) (fun α y => [.obj true 0 0 (mrep α.1 (Rep.str) (Rep.int .i64)) y.2.2.kinds, .obj true 0 0 (mrep α.2 (T_store_place_rep) (T_api_Value_rep)) y.2.2.set, .obj true blk0 off0 (.dat (T_store_Store_repo α.1 α.2)) y.2.2]) := by
  refine fun_okI Try.func16 rfl Try.ntmps16 rfl (all_cons rfl (all_cons rfl (all_cons rfl all_nil))) (fun w0 ok0 M => ?_)
  refine den_seq ?_
  refine den_region rfl ?_
  refine o_box rfl rfl (look_tmp rfl) rfl (fun z1 => ?_)
  refine o_alloc zero27 rfl rfl (fun z2 => ?_)
  refine o_assign rfl rfl guard_none look_bool (fun _ => rfl) ?_
  refine o_end ?_
  refine den_seq ?_
  refine den_region rfl ?_
  refine o_assign rfl rfl guard_none look_bool (fun _ => rfl) ?_
  refine o_end ?_
  refine den_seq ?_
  refine den_seq ?_
  refine den_region rfl ?_
  refine o_assign rfl rfl guard_none (look_int rfl) (fun _ => rfl) ?_
  refine o_end ?_
  refine den_bindA (A := (Value × Value)) (fun z3α z3 => [(8, ⟨Rep.bool, z3.1, true⟩), (4, ⟨Rep.addr, (z1, 0), true⟩), (6, ⟨Rep.addr, (z2, 0), true⟩)]) (fun z3α z3 => [.obj true z2 0 (.dat T_ref05_State_rep) T_ref05_State_zero, .obj true z1 0 (.dat T_ref05_State_rep) z3.2.1, .obj true 0 0 (mrep z3α.1 (Rep.str) (Rep.int .i64)) z3.2.2.kinds, .obj true 0 0 (mrep z3α.2 (T_store_place_rep) (T_api_Value_rep)) z3.2.2.set, .obj true blk0 off0 (.dat (T_store_Store_repo z3α.1 z3α.2)) z3.2.2]) ?_ (fun z3α z3 => ?_)
  · refine den_block ?_
    refine den_loopA (A := (Value × Value)) (law05_run_L1b l_2) (fun z4α z4 => [(8, ⟨Rep.bool, z4.1, true⟩), (9, ⟨Rep.int .i64, z4.2.1, true⟩), (0, ⟨Rep.addr, (blk0, off0), true⟩), (2, ⟨(T_law05_Op_rep).slice, l_2, true⟩), (4, ⟨Rep.addr, (z1, 0), true⟩), (6, ⟨Rep.addr, (z2, 0), true⟩)]) (fun z4α z4 => [.obj true z2 0 (.dat T_ref05_State_rep) T_ref05_State_zero, .obj true z1 0 (.dat T_ref05_State_rep) z4.2.2.1, .obj true 0 0 (mrep z4α.1 (Rep.str) (Rep.int .i64)) z4.2.2.2.kinds, .obj true 0 0 (mrep z4α.2 (T_store_place_rep) (T_api_Value_rep)) z4.2.2.2.set, .obj true blk0 off0 (.dat (T_store_Store_repo z4α.1 z4α.2)) z4.2.2.2]) (true, 0, m_1, s_0) (val0_0, val0_1) (fun z4α z4 => ?_) ((sub_env (sube_cons rfl (sube_cons rfl (sube_cons rfl (sube_cons rfl (sube_cons rfl (sube_cons rfl (sube_nil)))))))))
    refine den_seq ?_
    refine den_seq ?_
    refine den_region rfl ?_
    refine o_move rfl rfl guard_none (look_tmp rfl) (fun _ => rfl) ?_
    refine o_move rfl rfl guard_none (look_tmp rfl) (fun _ => rfl) ?_
    refine o_llen Try.underlying23 rfl rfl guard_none (look_tmp rfl) (fun _ => rfl) ?_
    refine o_lss rfl rfl guard_none (look_tmp rfl) (look_tmp rfl) (fun _ => rfl) (fun _ => rfl) ?_
    refine o_move rfl rfl guard_none (look_tmp rfl) (fun _ => rfl) ?_
    refine o_move rfl rfl (guard_some rfl rfl rfl) (look_tmp rfl) (fun _ => rfl) ?_
    refine o_pick rfl rfl guard_none (look_tmp rfl) (look_tmp rfl) look_bool (fun _ => rfl) (fun h1 h2 => pick_t ((fun _ => rfl) h1) h2) (fun _ _ => rfl) ?_
    refine o_end ?_
    refine den_cond (look_tmp rfl) ?_ ?_
    · refine den_skip ?_
      refine den_seq ?_
      refine den_block ?_
      refine den_open (fun z6 h_z6 => ?_)
      refine den_open (fun z7 h_z7 => ?_)
      have hB : ∀ (z5α : (Value × Value)) (S : Nat → Bool) (b6 b10 : Bool), S 6 = b6 → S 10 = b10 → (([.obj true z2 0 (.dat T_ref05_State_rep) T_ref05_State_zero, (cond (S 10) (.obj true z1 0 (.dat T_ref05_State_rep) z7.1) (.obj true z1 0 (.dat T_ref05_State_rep) z4.2.2.1)), (cond (S 6) (.gone) (.obj true 0 0 (mrep z4α.1 (Rep.str) (Rep.int .i64)) z4.2.2.2.kinds)), (cond (S 6) (.gone) (.obj true 0 0 (mrep z4α.2 (T_store_place_rep) (T_api_Value_rep)) z4.2.2.2.set)), (cond (S 6) (.obj true blk0 off0 (.dat (T_store_Store_repo z5α.1 z5α.2)) z7.2.2) (.obj true blk0 off0 (.dat (T_store_Store_repo z4α.1 z4α.2)) z4.2.2.2)), (cond (S 6) (.obj true 0 0 (mrep (z5α.1) (Rep.str) (Rep.int .i64)) z7.2.2.kinds) (.gone)), (cond (S 6) (.obj true 0 0 (mrep (z5α.2) (T_store_place_rep) (T_api_Value_rep)) z7.2.2.set) (.gone))] : List Go.Eng.Item)) = ([.obj true z2 0 (.dat T_ref05_State_rep) T_ref05_State_zero, (cond b10 (.obj true z1 0 (.dat T_ref05_State_rep) z7.1) (.obj true z1 0 (.dat T_ref05_State_rep) z4.2.2.1)), (cond b6 (.gone) (.obj true 0 0 (mrep z4α.1 (Rep.str) (Rep.int .i64)) z4.2.2.2.kinds)), (cond b6 (.gone) (.obj true 0 0 (mrep z4α.2 (T_store_place_rep) (T_api_Value_rep)) z4.2.2.2.set)), (cond b6 (.obj true blk0 off0 (.dat (T_store_Store_repo z5α.1 z5α.2)) z7.2.2) (.obj true blk0 off0 (.dat (T_store_Store_repo z4α.1 z4α.2)) z4.2.2.2)), (cond b6 (.obj true 0 0 (mrep (z5α.1) (Rep.str) (Rep.int .i64)) z7.2.2.kinds) (.gone)), (cond b6 (.obj true 0 0 (mrep (z5α.2) (T_store_place_rep) (T_api_Value_rep)) z7.2.2.set) (.gone))] : List Go.Eng.Item) := fun z5α S b6 b10 h6 h10 => by subst h6; subst h10; rfl
      refine den_weak sub_gone ?_
      refine den_weak sub_gone ?_
      refine den_weak (sub_pick (H' := [.obj true z2 0 (.dat T_ref05_State_rep) T_ref05_State_zero, .obj true z1 0 (.dat T_ref05_State_rep) z4.2.2.1, .obj true 0 0 (mrep z4α.1 (Rep.str) (Rep.int .i64)) z4.2.2.2.kinds, .obj true 0 0 (mrep z4α.2 (T_store_place_rep) (T_api_Value_rep)) z4.2.2.2.set, .obj true blk0 off0 (.dat (T_store_Store_repo z4α.1 z4α.2)) z4.2.2.2, .gone, .gone]) [2, 3, 4, 5, 6, 0, 1] rfl rfl) ?_
      refine den_drawA (A := (Value × Value)) (H' := fun z5α => [.obj true z2 0 (.dat T_ref05_State_rep) T_ref05_State_zero, .obj true z1 0 (.dat T_ref05_State_rep) z7.1, .gone, .gone, .obj true blk0 off0 (.dat (T_store_Store_repo z5α.1 z5α.2)) z7.2.2, .obj true 0 0 (mrep (z5α.1) (Rep.str) (Rep.int .i64)) z7.2.2.kinds, .obj true 0 0 (mrep (z5α.2) (T_store_place_rep) (T_api_Value_rep)) z7.2.2.set]) (fun z5α => [(20, ⟨Rep.addr, (blk0, off0), true⟩), (21, ⟨T_ref05_State_rep, z4.2.2.1, true⟩), (22, ⟨(T_law05_Op_rep).slice, l_2, true⟩), (23, ⟨Rep.int .i64, z4.2.1, true⟩), (24, ⟨(T_law05_Op_rep).ptrTo, z6, true⟩), (25, ⟨T_law05_Op_rep, z6, true⟩), (26, ⟨Rep.pair (T_ref05_State_rep) (Rep.bool), (z7.1, z7.2.1), true⟩), (19, ⟨Rep.pair (T_ref05_State_rep) (Rep.bool), (z7.1, z7.2.1), true⟩), (27, ⟨T_ref05_State_rep, z7.1, true⟩), (28, ⟨Rep.bool, z7.2.1, true⟩), (41, ⟨.any, (), false⟩), (8, ⟨Rep.bool, z7.2.1, true⟩)]) (fun z5α S => [.obj true z2 0 (.dat T_ref05_State_rep) T_ref05_State_zero, (cond (S 10) (.obj true z1 0 (.dat T_ref05_State_rep) z7.1) (.obj true z1 0 (.dat T_ref05_State_rep) z4.2.2.1)), (cond (S 6) (.gone) (.obj true 0 0 (mrep z4α.1 (Rep.str) (Rep.int .i64)) z4.2.2.2.kinds)), (cond (S 6) (.gone) (.obj true 0 0 (mrep z4α.2 (T_store_place_rep) (T_api_Value_rep)) z4.2.2.2.set)), (cond (S 6) (.obj true blk0 off0 (.dat (T_store_Store_repo z5α.1 z5α.2)) z7.2.2) (.obj true blk0 off0 (.dat (T_store_Store_repo z4α.1 z4α.2)) z4.2.2.2)), (cond (S 6) (.obj true 0 0 (mrep (z5α.1) (Rep.str) (Rep.int .i64)) z7.2.2.kinds) (.gone)), (cond (S 6) (.obj true 0 0 (mrep (z5α.2) (T_store_place_rep) (T_api_Value_rep)) z7.2.2.set) (.gone))]) ((Value.slice none 0 0), (Value.slice none 0 0)) mixed (fun _ => rfl) rfl rfl (fun z5α S hS => hB z5α S true true (hS 6 (by decide)) (hS 10 (by decide))) ⟨?_, ?_, ?_, ?_, ?_, ?_, ?_, ?_, ?_, ?_, ?_, ?_, trivial⟩ (fun z5α => ?_)
      · intro z5α S hc hk hp
        have e6 : S 6 = false := (not_yet (j := 6) (q := 0) hc hk rfl rfl rfl rfl)
        have e10 : S 10 = false := (not_yet (j := 10) (q := 2) hc hk rfl rfl rfl rfl)
        refine eq_H (H' := [.obj true z2 0 (.dat T_ref05_State_rep) T_ref05_State_zero, .obj true z1 0 (.dat T_ref05_State_rep) z4.2.2.1, .obj true 0 0 (mrep z4α.1 (Rep.str) (Rep.int .i64)) z4.2.2.2.kinds, .obj true 0 0 (mrep z4α.2 (T_store_place_rep) (T_api_Value_rep)) z4.2.2.2.set, .obj true blk0 off0 (.dat (T_store_Store_repo z4α.1 z4α.2)) z4.2.2.2, .gone, .gone]) (by first | exact hB z5α S false false e6 e10 | (have q := hB z5α S false false e6 e10; simp only [cond_true, cond_false] at q; exact q)) ?_
        refine o_move rfl rfl guard_none (look_o rfl rfl) (fun _ => rfl) ?_
        apply h_endA (α := z5α) z5α
        · exact (.same (.same (.same (.same (.same (.same (.same (.same (.same (.same (.same (.same .nil))))))))))))
        · exact rfl
        · exact rfl
        · exact rfl
        · exact hB z5α (fun k => S k || Nat.beq k 0) false false (or_f e6 rfl) (or_f e10 rfl)
      · intro z5α S hc hk hp
        have e6 : S 6 = false := (not_yet (j := 6) (q := 1) hc hk rfl rfl rfl rfl)
        have e10 : S 10 = false := (not_yet (j := 10) (q := 3) hc hk rfl rfl rfl rfl)
        refine eq_H (H' := [.obj true z2 0 (.dat T_ref05_State_rep) T_ref05_State_zero, .obj true z1 0 (.dat T_ref05_State_rep) z4.2.2.1, .obj true 0 0 (mrep z4α.1 (Rep.str) (Rep.int .i64)) z4.2.2.2.kinds, .obj true 0 0 (mrep z4α.2 (T_store_place_rep) (T_api_Value_rep)) z4.2.2.2.set, .obj true blk0 off0 (.dat (T_store_Store_repo z4α.1 z4α.2)) z4.2.2.2, .gone, .gone]) (by first | exact hB z5α S false false e6 e10 | (have q := hB z5α S false false e6 e10; simp only [cond_true, cond_false] at q; exact q)) ?_
        refine o_oloadi 1 rfl type27 foc_self rfl guard_none (look_o rfl rfl) (fun _ => rfl) ?_
        apply h_endA (α := z5α) z5α
        · exact (.same (.same (.same (.same (.same (.same (.same (.same (.same (.same (.same (.same .nil))))))))))))
        · exact rfl
        · exact rfl
        · exact rfl
        · exact hB z5α (fun k => S k || Nat.beq k 1) false false (or_f e6 rfl) (or_f e10 rfl)
      · intro z5α S hc hk hp
        have e6 : S 6 = false := (not_yet (j := 6) (q := 2) hc (not_yet (j := 5) (q := 0) hc (not_yet (j := 4) (q := 0) hc hk rfl rfl rfl rfl) rfl rfl rfl rfl) rfl rfl rfl rfl)
        have e10 : S 10 = false := (not_yet (j := 10) (q := 4) hc hk rfl rfl rfl rfl)
        refine eq_H (H' := [.obj true z2 0 (.dat T_ref05_State_rep) T_ref05_State_zero, .obj true z1 0 (.dat T_ref05_State_rep) z4.2.2.1, .obj true 0 0 (mrep z4α.1 (Rep.str) (Rep.int .i64)) z4.2.2.2.kinds, .obj true 0 0 (mrep z4α.2 (T_store_place_rep) (T_api_Value_rep)) z4.2.2.2.set, .obj true blk0 off0 (.dat (T_store_Store_repo z4α.1 z4α.2)) z4.2.2.2, .gone, .gone]) (by first | exact hB z5α S false false e6 e10 | (have q := hB z5α S false false e6 e10; simp only [cond_true, cond_false] at q; exact q)) ?_
        refine o_move rfl rfl guard_none (look_o rfl rfl) (fun _ => rfl) ?_
        apply h_endA (α := z5α) z5α
        · exact (.same (.same (.same (.same (.same (.same (.same (.same (.same (.same (.same (.same .nil))))))))))))
        · exact rfl
        · exact rfl
        · exact rfl
        · exact hB z5α (fun k => S k || Nat.beq k 2) false false (or_f e6 rfl) (or_f e10 rfl)
      · intro z5α S hc hk hp
        have e6 : S 6 = false := (not_yet (j := 6) (q := 2) hc (not_yet (j := 5) (q := 0) hc (not_yet (j := 4) (q := 1) hc hk rfl rfl rfl rfl) rfl rfl rfl rfl) rfl rfl rfl rfl)
        have e10 : S 10 = false := (not_yet (j := 10) (q := 5) hc hk rfl rfl rfl rfl)
        refine eq_H (H' := [.obj true z2 0 (.dat T_ref05_State_rep) T_ref05_State_zero, .obj true z1 0 (.dat T_ref05_State_rep) z4.2.2.1, .obj true 0 0 (mrep z4α.1 (Rep.str) (Rep.int .i64)) z4.2.2.2.kinds, .obj true 0 0 (mrep z4α.2 (T_store_place_rep) (T_api_Value_rep)) z4.2.2.2.set, .obj true blk0 off0 (.dat (T_store_Store_repo z4α.1 z4α.2)) z4.2.2.2, .gone, .gone]) (by first | exact hB z5α S false false e6 e10 | (have q := hB z5α S false false e6 e10; simp only [cond_true, cond_false] at q; exact q)) ?_
        refine o_move rfl rfl guard_none (look_o rfl rfl) (fun _ => rfl) ?_
        apply h_endA (α := z5α) z5α
        · exact (.same (.same (.same (.same (.same (.same (.same (.same (.same (.same (.same (.same .nil))))))))))))
        · exact rfl
        · exact rfl
        · exact rfl
        · exact hB z5α (fun k => S k || Nat.beq k 3) false false (or_f e6 rfl) (or_f e10 rfl)
      · intro z5α S hc hk hp
        have e6 : S 6 = false := (not_yet (j := 6) (q := 2) hc (not_yet (j := 5) (q := 0) hc hk rfl rfl rfl rfl) rfl rfl rfl rfl)
        have e10 : S 10 = false := (not_yet (j := 10) (q := 6) hc hk rfl rfl rfl rfl)
        refine eq_H (H' := [.obj true z2 0 (.dat T_ref05_State_rep) T_ref05_State_zero, .obj true z1 0 (.dat T_ref05_State_rep) z4.2.2.1, .obj true 0 0 (mrep z4α.1 (Rep.str) (Rep.int .i64)) z4.2.2.2.kinds, .obj true 0 0 (mrep z4α.2 (T_store_place_rep) (T_api_Value_rep)) z4.2.2.2.set, .obj true blk0 off0 (.dat (T_store_Store_repo z4α.1 z4α.2)) z4.2.2.2, .gone, .gone]) (by first | exact hB z5α S false false e6 e10 | (have q := hB z5α S false false e6 e10; simp only [cond_true, cond_false] at q; exact q)) ?_
        refine o_from (bind_eqO h_z6) ?_
        refine o_iaddr Try.underlying23 type97 rfl rfl (look_d rfl rfl (pr hp 0 rfl rfl)) (look_d rfl rfl (pr hp 1 rfl rfl)) rfl rfl (o_eqO ?_)
        apply h_endA (α := z5α) z5α
        · exact (.same (.same (.same (.same (.same (.same (.same (.same (.same (.same (.same (.same .nil))))))))))))
        · exact rfl
        · exact rfl
        · exact rfl
        · exact hB z5α (fun k => S k || Nat.beq k 4) false false (or_f e6 rfl) (or_f e10 rfl)
      · intro z5α S hc hk hp
        have e6 : S 6 = false := (not_yet (j := 6) (q := 2) hc hk rfl rfl rfl rfl)
        have e10 : S 10 = false := (not_yet (j := 10) (q := 7) hc hk rfl rfl rfl rfl)
        refine eq_H (H' := [.obj true z2 0 (.dat T_ref05_State_rep) T_ref05_State_zero, .obj true z1 0 (.dat T_ref05_State_rep) z4.2.2.1, .obj true 0 0 (mrep z4α.1 (Rep.str) (Rep.int .i64)) z4.2.2.2.kinds, .obj true 0 0 (mrep z4α.2 (T_store_place_rep) (T_api_Value_rep)) z4.2.2.2.set, .obj true blk0 off0 (.dat (T_store_Store_repo z4α.1 z4α.2)) z4.2.2.2, .gone, .gone]) (by first | exact hB z5α S false false e6 e10 | (have q := hB z5α S false false e6 e10; simp only [cond_true, cond_false] at q; exact q)) ?_
        refine o_load type97 rfl rfl guard_none (look_d rfl rfl (pr hp 0 rfl rfl)) (fun _ => rfl) ?_
        apply h_endA (α := z5α) z5α
        · exact (.same (.same (.same (.same (.same (.same (.same (.same (.same (.same (.same (.same .nil))))))))))))
        · exact rfl
        · exact rfl
        · exact rfl
        · exact hB z5α (fun k => S k || Nat.beq k 5) false false (or_f e6 rfl) (or_f e10 rfl)
      · intro z5α S hc hk hp
        have e10 : S 10 = false := (not_yet (j := 10) (q := 1) hc hk rfl rfl rfl rfl)
        refine eq_H (H' := [.obj true z2 0 (.dat T_ref05_State_rep) T_ref05_State_zero, .obj true z1 0 (.dat T_ref05_State_rep) z4.2.2.1, .obj true 0 0 (mrep z4α.1 (Rep.str) (Rep.int .i64)) z4.2.2.2.kinds, .obj true 0 0 (mrep z4α.2 (T_store_place_rep) (T_api_Value_rep)) z4.2.2.2.set, .obj true blk0 off0 (.dat (T_store_Store_repo z4α.1 z4α.2)) z4.2.2.2, .gone, .gone]) (by first | exact hB z5α S false false hk e10 | (have q := hB z5α S false false hk e10; simp only [cond_true, cond_false] at q; exact q)) ?_
        refine o_from (bind_eqO h_z7) ?_
        refine o_weak (H' := [.obj true 0 0 (mrep z4α.1 (Rep.str) (Rep.int .i64)) z4.2.2.2.kinds, .obj true 0 0 (mrep z4α.2 (T_store_place_rep) (T_api_Value_rep)) z4.2.2.2.set, .obj true blk0 off0 (.dat (T_store_Store_repo z4α.1 z4α.2)) z4.2.2.2] ++ ([] ++ [.obj true z2 0 (.dat T_ref05_State_rep) T_ref05_State_zero, .obj true z1 0 (.dat T_ref05_State_rep) z4.2.2.1, .gone, .gone])) (sub_pick [2, 3, 4, 0, 1, 5, 6] rfl rfl) ?_
        refine o_callU rfl rfl rfl rfl rfl callable54 (looks_cons (look_d rfl rfl (pr hp 0 rfl rfl)) (fun _ => rfl) (looks_cons (look_d rfl rfl (pr hp 1 rfl rfl)) (fun _ => rfl) (looks_cons (look_d rfl rfl (pr hp 2 rfl rfl)) (fun _ => rfl) (looks_nil)))) .nil (law05_step_ok _ _ _ _ z4.2.2.2 z4.2.2.1 z6) (fun _ _ => (wr_c (wr_c (wr_c wr_n)))) (fun z8α => o_eqOH ?_)
        refine o_weak (H' := [.obj true 0 0 (mrep z8α.1 (Rep.str) (Rep.int .i64)) z7.2.2.kinds, .obj true 0 0 (mrep z8α.2 (T_store_place_rep) (T_api_Value_rep)) z7.2.2.set, .obj true blk0 off0 (.dat (T_store_Store_repo z8α.1 z8α.2)) z7.2.2, .obj true z2 0 (.dat T_ref05_State_rep) T_ref05_State_zero, .obj true z1 0 (.dat T_ref05_State_rep) z4.2.2.1, .gone, .gone]) (sub_pick [0, 1, 2, 3, 4, 5, 6] rfl rfl) ?_
        refine o_weak sub_gone ?_
        refine o_weak sub_gone ?_
        refine o_weak (H' := [.obj true z2 0 (.dat T_ref05_State_rep) T_ref05_State_zero, .obj true z1 0 (.dat T_ref05_State_rep) z4.2.2.1, .gone, .gone, .obj true blk0 off0 (.dat (T_store_Store_repo z8α.1 z8α.2)) z7.2.2, .obj true 0 0 (mrep z8α.1 (Rep.str) (Rep.int .i64)) z7.2.2.kinds, .obj true 0 0 (mrep z8α.2 (T_store_place_rep) (T_api_Value_rep)) z7.2.2.set]) (sub_pick [5, 6, 1, 0, 4, 2, 3] rfl rfl) ?_
        apply h_endA (α := z5α) z8α
        · exact (.same (.same (.same (.same (.same (.same (.same (.same (.same (.same (.same (.same .nil))))))))))))
        · exact rfl
        · exact rfl
        · exact rfl
        · exact hB z8α (fun k => S k || Nat.beq k 6) true false (or_i rfl) (or_f e10 rfl)
      · intro z5α S hc hk hp
        have e6 : S 6 = true := (pr hp 0 rfl rfl)
        have e10 : S 10 = false := (not_yet (j := 10) (q := 9) hc hk rfl rfl rfl rfl)
        refine eq_H (H' := [.obj true z2 0 (.dat T_ref05_State_rep) T_ref05_State_zero, .obj true z1 0 (.dat T_ref05_State_rep) z4.2.2.1, .gone, .gone, .obj true blk0 off0 (.dat (T_store_Store_repo z5α.1 z5α.2)) z7.2.2, .obj true 0 0 (mrep (z5α.1) (Rep.str) (Rep.int .i64)) z7.2.2.kinds, .obj true 0 0 (mrep (z5α.2) (T_store_place_rep) (T_api_Value_rep)) z7.2.2.set]) (by first | exact hB z5α S true false e6 e10 | (have q := hB z5α S true false e6 e10; simp only [cond_true, cond_false] at q; exact q)) ?_
        refine o_move rfl rfl guard_none (look_d rfl rfl (pr hp 0 rfl rfl)) (fun _ => rfl) ?_
        apply h_endA (α := z5α) z5α
        · exact (.same (.same (.same (.same (.same (.same (.same (.same (.same (.same (.same (.same .nil))))))))))))
        · exact rfl
        · exact rfl
        · exact rfl
        · exact hB z5α (fun k => S k || Nat.beq k 7) true false (or_t e6) (or_f e10 rfl)
      · intro z5α S hc hk hp
        have e6 : S 6 = true := (pr (hc 7 _ rfl (pr hp 0 rfl rfl)) 0 rfl rfl)
        have e10 : S 10 = false := (not_yet (j := 10) (q := 0) hc hk rfl rfl rfl rfl)
        refine eq_H (H' := [.obj true z2 0 (.dat T_ref05_State_rep) T_ref05_State_zero, .obj true z1 0 (.dat T_ref05_State_rep) z4.2.2.1, .gone, .gone, .obj true blk0 off0 (.dat (T_store_Store_repo z5α.1 z5α.2)) z7.2.2, .obj true 0 0 (mrep (z5α.1) (Rep.str) (Rep.int .i64)) z7.2.2.kinds, .obj true 0 0 (mrep (z5α.2) (T_store_place_rep) (T_api_Value_rep)) z7.2.2.set]) (by first | exact hB z5α S true false e6 e10 | (have q := hB z5α S true false e6 e10; simp only [cond_true, cond_false] at q; exact q)) ?_
        refine o_fst rfl rfl guard_none (look_d rfl rfl (pr hp 0 rfl rfl)) (fun _ => rfl) ?_
        apply h_endA (α := z5α) z5α
        · exact (.same (.same (.same (.same (.same (.same (.same (.same (.same (.same (.same (.same .nil))))))))))))
        · exact rfl
        · exact rfl
        · exact rfl
        · exact hB z5α (fun k => S k || Nat.beq k 8) true false (or_t e6) (or_f e10 rfl)
      · intro z5α S hc hk hp
        have e6 : S 6 = true := (pr (hc 7 _ rfl (pr hp 0 rfl rfl)) 0 rfl rfl)
        refine eq_H (H' := [.obj true z2 0 (.dat T_ref05_State_rep) T_ref05_State_zero, (cond (S 10) (.obj true z1 0 (.dat T_ref05_State_rep) z7.1) (.obj true z1 0 (.dat T_ref05_State_rep) z4.2.2.1)), .gone, .gone, .obj true blk0 off0 (.dat (T_store_Store_repo z5α.1 z5α.2)) z7.2.2, .obj true 0 0 (mrep (z5α.1) (Rep.str) (Rep.int .i64)) z7.2.2.kinds, .obj true 0 0 (mrep (z5α.2) (T_store_place_rep) (T_api_Value_rep)) z7.2.2.set]) (by first | exact hB z5α S true (S 10) e6 rfl | (have q := hB z5α S true (S 10) e6 rfl; simp only [cond_true, cond_false] at q; exact q)) ?_
        refine o_snd rfl rfl guard_none (look_d rfl rfl (pr hp 0 rfl rfl)) (fun _ => rfl) ?_
        apply h_endA (α := z5α) z5α
        · exact (.same (.same (.same (.same (.same (.same (.same (.same (.same (.same (.same (.same .nil))))))))))))
        · exact rfl
        · exact rfl
        · exact rfl
        · exact hB z5α (fun k => S k || Nat.beq k 9) true (S 10) (or_t e6) (or_ne rfl)
      · intro z5α S hc hk hp
        have e6 : S 6 = true := (pr hp 1 rfl rfl)
        refine eq_H (H' := [.obj true z2 0 (.dat T_ref05_State_rep) T_ref05_State_zero, .obj true z1 0 (.dat T_ref05_State_rep) z4.2.2.1, .gone, .gone, .obj true blk0 off0 (.dat (T_store_Store_repo z5α.1 z5α.2)) z7.2.2, .obj true 0 0 (mrep (z5α.1) (Rep.str) (Rep.int .i64)) z7.2.2.kinds, .obj true 0 0 (mrep (z5α.2) (T_store_place_rep) (T_api_Value_rep)) z7.2.2.set]) (by first | exact hB z5α S true false e6 hk | (have q := hB z5α S true false e6 hk; simp only [cond_true, cond_false] at q; exact q)) ?_
        refine o_weak (H' := [.obj true z1 0 (.dat T_ref05_State_rep) z4.2.2.1, .obj true z2 0 (.dat T_ref05_State_rep) T_ref05_State_zero, .gone, .gone, .obj true blk0 off0 (.dat (T_store_Store_repo z5α.1 z5α.2)) z7.2.2, .obj true 0 0 (mrep (z5α.1) (Rep.str) (Rep.int .i64)) z7.2.2.kinds, .obj true 0 0 (mrep (z5α.2) (T_store_place_rep) (T_api_Value_rep)) z7.2.2.set]) (sub_pick [1, 0, 2, 3, 4, 5, 6] rfl rfl) ?_
        refine o_ostore type27 foc_self guard_none (look_o rfl rfl) (fun _ => rfl) (look_d rfl rfl (pr hp 0 rfl rfl)) (fun _ => rfl) ?_
        refine o_weak (H' := [.obj true z2 0 (.dat T_ref05_State_rep) T_ref05_State_zero, .obj true z1 0 (.dat T_ref05_State_rep) z7.1, .gone, .gone, .obj true blk0 off0 (.dat (T_store_Store_repo z5α.1 z5α.2)) z7.2.2, .obj true 0 0 (mrep (z5α.1) (Rep.str) (Rep.int .i64)) z7.2.2.kinds, .obj true 0 0 (mrep (z5α.2) (T_store_place_rep) (T_api_Value_rep)) z7.2.2.set]) (sub_pick [1, 0, 2, 3, 4, 5, 6] rfl rfl) ?_
        refine h_none (n := 31) (d := 41) rfl rfl ?_
        apply h_endA (α := z5α) z5α
        · exact (.same (.same (.same (.same (.same (.same (.same (.same (.same (.same (.same (.same .nil))))))))))))
        · exact rfl
        · exact rfl
        · exact rfl
        · exact hB z5α (fun k => S k || Nat.beq k 10) true true (or_t e6) (or_i rfl)
      · intro z5α S hc hk hp
        have e6 : S 6 = true := (pr hp 8 rfl rfl)
        have e10 : S 10 = true := (pr hp 1 rfl rfl)
        refine eq_H (H' := [.obj true z2 0 (.dat T_ref05_State_rep) T_ref05_State_zero, .obj true z1 0 (.dat T_ref05_State_rep) z7.1, .gone, .gone, .obj true blk0 off0 (.dat (T_store_Store_repo z5α.1 z5α.2)) z7.2.2, .obj true 0 0 (mrep (z5α.1) (Rep.str) (Rep.int .i64)) z7.2.2.kinds, .obj true 0 0 (mrep (z5α.2) (T_store_place_rep) (T_api_Value_rep)) z7.2.2.set]) (by first | exact hB z5α S true true e6 e10 | (have q := hB z5α S true true e6 e10; simp only [cond_true, cond_false] at q; exact q)) ?_
        refine o_assign rfl rfl guard_none (look_d rfl rfl (pr hp 0 rfl rfl)) (fun _ => rfl) ?_
        apply h_endA (α := z5α) z5α
        · exact (.same (.same (.same (.same (.same (.same (.same (.same (.same (.same (.same (.same .nil))))))))))))
        · exact rfl
        · exact rfl
        · exact rfl
        · exact hB z5α (fun k => S k || Nat.beq k 11) true true (or_t e6) (or_t e10)
      refine den_weak (H' := [.obj true z2 0 (.dat T_ref05_State_rep) T_ref05_State_zero, .obj true z1 0 (.dat T_ref05_State_rep) z7.1, .obj true blk0 off0 (.dat (T_store_Store_repo z5α.1 z5α.2)) z7.2.2, .obj true 0 0 (mrep z5α.1 (Rep.str) (Rep.int .i64)) z7.2.2.kinds, .obj true 0 0 (mrep z5α.2 (T_store_place_rep) (T_api_Value_rep)) z7.2.2.set]) (sub_pick [0, 1, 4, 5, 6] rfl rfl) ?_
      refine den_blkend ?_
      refine den_region rfl ?_
      refine o_move rfl rfl guard_none (look_tmp rfl) (fun _ => rfl) ?_
      refine o_add rfl rfl guard_none (look_tmp rfl) (look_int rfl) (fun _ => rfl) (fun _ => rfl) ?_
      refine o_assign rfl rfl guard_none (look_tmp rfl) (fun _ => rfl) ?_
      refine o_end ?_
      refine den_nextA (z5α.1, z5α.2) ((Sub.trans (sub_pick [0, 1, 3, 4, 2] rfl rfl) (sub_env (sube_cons rfl (sube_cons rfl (sube_cons rfl (sube_cons rfl (sube_cons rfl (sube_cons rfl (sube_nil))))))))))
    · refine den_code_exit ?_
      refine dene_out rfl ?_
      refine dene_loopA (by simp) ?_
      refine dene_to rfl ?_
      refine den_endA (z4α.1, z4α.2) ((sub_env (sube_cons rfl (sube_cons rfl (sube_cons rfl (sube_nil))))))
  refine den_seq ?_
  refine den_region rfl ?_
  refine o_oloadi 1 rfl type27 foc_self rfl guard_none (look_tmp rfl) (fun _ => rfl) ?_
  refine o_move rfl rfl guard_none (look_tmp rfl) (fun _ => rfl) ?_
  refine o_ostore type27 foc_self guard_none (look_tmp rfl) (fun _ => rfl) (look_tmp rfl) (fun _ => rfl) ?_
  refine o_assign rfl rfl guard_none (look_tmp rfl) (fun _ => rfl) ?_
  refine o_end ?_
  refine den_code_ret ?_
  exact dene_resI (z3α.1, z3α.2) (res2 rfl (rv_cell 0 type27 rfl rfl) (rv_tmp rfl)) (fun _ _ _ k => ato_pick [2, 3, 4] rfl rfl k)

theorem law05_StoreRuns_ok  (d_0 : (List T_api_Decl)) (l_1 : (List T_law05_Op)) : FunOk Try.prog 3 [⟨(T_api_Decl_rep).slice, d_0, true⟩, ⟨(T_law05_Op_rep).slice, l_1, true⟩] (law05_StoreRuns d_0 l_1) (Rep.bool) := by
  refine fun_ok Try.func3 rfl Try.ntmps3 rfl (all_cons rfl (all_cons rfl all_nil)) (fun w0 ok0 => ?_)
  refine den_seq ?_
  refine den_region rfl ?_
  refine o_assign rfl rfl guard_none look_bool (fun _ => rfl) ?_
  refine o_end ?_
  refine den_seq ?_
  refine den_seq ?_
  refine den_region rfl ?_
  refine o_call rfl rfl rfl callable15 (looks_nil) (law05_alive_ok) (fun z1 => ?_)
  refine o_not rfl rfl guard_none (look_tmp rfl) (fun _ => rfl) ?_
  refine o_end ?_
  refine den_cond (look_tmp rfl) ?_ ?_
  · refine den_seq ?_
    refine den_region rfl ?_
    refine o_assign rfl rfl guard_none look_bool (fun _ => rfl) ?_
    refine o_end ?_
    refine den_code_ret ?_
    refine dene_ret ?_
    exact dene_res (res1 rfl (rv_tmp rfl))
  · refine den_skip ?_
    refine den_seq ?_
    refine den_region rfl ?_
    refine o_move rfl rfl guard_none (look_tmp rfl) (fun _ => rfl) ?_
    refine o_weak (H' := [] ++ ([] ++ [])) (sub_pick [] rfl rfl) ?_
    refine o_callU rfl rfl rfl rfl rfl callable17 (looks_cons (look_tmp rfl) (fun _ => rfl) (looks_nil)) .nil (store_New_ok d_0) (fun _ _ => (wr_c (wr_c (wr_c wr_n)))) (fun z3α z2 => ?_)
    obtain ⟨⟨z4, z5⟩, z6, z7⟩ := z3α
    refine o_weak (H' := [.obj true 0 0 (mrep z6 (Rep.str) (Rep.int .i64)) z2.kinds, .obj true 0 0 (mrep z7 (T_store_place_rep) (T_api_Value_rep)) z2.set, .obj true z4 z5 (.dat (T_store_Store_repo z6 z7)) z2]) (sub_pick [0, 1, 2] rfl rfl) ?_
    refine o_move rfl rfl guard_none (look_tmp rfl) (fun _ => rfl) ?_
    refine o_build (R := T_ref05_State_rep0) (f := T_ref05_State_tup) (y := (⟨d_0, []⟩ : T_ref05_State)) shape27 rfl rfl rfl rfl guard_none (bld_part rfl rfl (look_tmp rfl) (fun _ => rfl) (bld_zero (z_slice rfl) (bld_nil))) ?_
    refine o_move rfl rfl guard_none (look_tmp rfl) (fun _ => rfl) ?_
    refine o_call rfl rfl rfl callable18 (looks_cons (look_tmp rfl) (fun _ => rfl) (looks_nil)) (law05_few_ok _) (fun z8 => ?_)
    refine o_weak (H' := [.obj true 0 0 (mrep z6 (Rep.str) (Rep.int .i64)) z2.kinds, .obj true 0 0 (mrep z7 (T_store_place_rep) (T_api_Value_rep)) z2.set, .obj true z4 z5 (.dat (T_store_Store_repo z6 z7)) z2] ++ ([] ++ [])) (sub_pick [0, 1, 2] rfl rfl) ?_
    refine o_callU rfl rfl rfl rfl rfl callable16 (looks_cons (look_tmp rfl) (fun _ => rfl) (looks_cons (look_tmp rfl) (fun _ => rfl) (looks_cons (look_tmp rfl) (fun _ => rfl) (looks_nil)))) .nil (law05_run_ok _ _ _ _ z2 (⟨d_0, []⟩ : T_ref05_State) z8) (fun _ _ => (wr_c (wr_c (wr_c wr_n)))) (fun z10α z9 => ?_)
    obtain ⟨z11, z12⟩ := z10α
    refine o_weak (H' := [.obj true 0 0 (mrep z11 (Rep.str) (Rep.int .i64)) z9.2.2.kinds, .obj true 0 0 (mrep z12 (T_store_place_rep) (T_api_Value_rep)) z9.2.2.set, .obj true z4 z5 (.dat (T_store_Store_repo z11 z12)) z9.2.2]) (sub_pick [0, 1, 2] rfl rfl) ?_
    refine o_move rfl rfl guard_none (look_tmp rfl) (fun _ => rfl) ?_
    refine o_fst rfl rfl guard_none (look_tmp rfl) (fun _ => rfl) ?_
    refine o_snd rfl rfl guard_none (look_tmp rfl) (fun _ => rfl) ?_
    refine o_alloc zero27 rfl rfl (fun z13 => ?_)
    refine o_ostore type27 foc_self guard_none (look_tmp rfl) (fun _ => rfl) (look_tmp rfl) (fun _ => rfl) ?_
    refine o_assign rfl rfl guard_none (look_tmp rfl) (fun _ => rfl) ?_
    refine o_end ?_
    refine den_seq ?_
    refine den_region rfl ?_
    refine o_move rfl rfl guard_none (look_tmp rfl) (fun _ => rfl) ?_
    refine o_assign rfl rfl guard_none (look_tmp rfl) (fun _ => rfl) ?_
    refine o_end ?_
    refine den_code_ret ?_
    exact dene_res (res1 rfl (rv_tmp rfl))

theorem maps_Clone_56_ok (val0 : Value) (xs : (Option (List (Bytes × Int)))) : FunOkI Try.prog 56 [⟨.val1, val0, true⟩] [.obj false 0 0 (mrep val0 (Rep.str) (Rep.int .i64)) xs] (maps_Clone_56 xs) (Rep.val1) (fun (α : Value) (y : (Option (List (Bytes × Int)))) => α) (fun α y => [.obj true 0 0 (mrep α (Rep.str) (Rep.int .i64)) y]) := mclone_any sh_laysC56 rfl val0 xs

theorem maps_Clone_57_ok (val0 : Value) (xs : (Option (List (T_store_place × T_api_Value)))) : FunOkI Try.prog 57 [⟨.val1, val0, true⟩] [.obj false 0 0 (mrep val0 (T_store_place_rep) (T_api_Value_rep)) xs] (maps_Clone_57 xs) (Rep.val1) (fun (α : Value) (y : (Option (List (T_store_place × T_api_Value)))) => α) (fun α y => [.obj true 0 0 (mrep α (T_store_place_rep) (T_api_Value_rep)) y]) := mclone_any sh_laysC57 rfl val0 xs

theorem store_Store_Clone_ok (blk0 : Nat) (off0 : Nat) (val0_0 : Value) (val0_1 : Value) (s_0 : T_store_Store) : FunOkI Try.prog 19 [⟨.addr, (blk0, off0), true⟩] [.obj false 0 0 (mrep val0_0 (Rep.str) (Rep.int .i64)) s_0.kinds, .obj false 0 0 (mrep val0_1 (T_store_place_rep) (T_api_Value_rep)) s_0.set, .obj false blk0 off0 (.dat (T_store_Store_repo val0_0 val0_1)) s_0] (store_Store_Clone s_0) (Rep.optr) (fun (α : ((Nat × Nat) × Value × Value)) (y : (Option T_store_Store)) => (y.map fun _ => α.1)) (fun α y => (optL y fun q => [.obj true 0 0 (mrep α.2.1 (Rep.str) (Rep.int .i64)) q.kinds, .obj true 0 0 (mrep α.2.2 (T_store_place_rep) (T_api_Value_rep)) q.set, .obj true α.1.1 α.1.2 (.dat (T_store_Store_repo α.2.1 α.2.2)) q]) ++ []) := by
  refine fun_okI Try.func19 rfl Try.ntmps19 rfl (all_cons rfl all_nil) (fun w0 ok0 M => ?_)
  refine den_seq ?_
  refine den_region rfl ?_
  refine o_assign rfl rfl guard_none look_nilp (fun _ => rfl) ?_
  refine o_end ?_
  refine den_seq ?_
  refine den_seq ?_
  refine den_region rfl ?_
  refine o_move rfl rfl guard_none (look_tmp rfl) (fun _ => rfl) ?_
  refine o_weak (H' := [] ++ ([.obj false 0 0 (mrep val0_0 (Rep.str) (Rep.int .i64)) s_0.kinds, .obj false 0 0 (mrep val0_1 (T_store_place_rep) (T_api_Value_rep)) s_0.set, .obj false blk0 off0 (.dat (T_store_Store_repo val0_0 val0_1)) s_0] ++ [])) (sub_pick [0, 1, 2] rfl rfl) ?_
  refine o_callU rfl rfl rfl rfl rfl callable55 (looks_cons (look_tmp rfl) (fun _ => rfl) (looks_nil)) (.cons (.cons (.cons .nil))) (store_Store_made_ok _ _ _ _ s_0) (fun _ _ => wr_n) (fun z2α z1 => ?_)
  refine o_weak (H' := [.obj false 0 0 (mrep val0_0 (Rep.str) (Rep.int .i64)) s_0.kinds, .obj false 0 0 (mrep val0_1 (T_store_place_rep) (T_api_Value_rep)) s_0.set, .obj false blk0 off0 (.dat (T_store_Store_repo val0_0 val0_1)) s_0]) (sub_pick [0, 1, 2] rfl rfl) ?_
  refine o_not rfl rfl guard_none (look_tmp rfl) (fun _ => rfl) ?_
  refine o_end ?_
  refine den_cond (look_tmp rfl) ?_ ?_
  · refine den_seq ?_
    refine den_region rfl ?_
    refine o_assign rfl rfl guard_none look_nilp (fun _ => rfl) ?_
    refine o_end ?_
    refine den_code_ret ?_
    refine dene_ret ?_
    exact dene_resI ((0, 0), (Value.slice none 0 0), (Value.slice none 0 0)) (res1 rfl (rv_onil rfl)) (fun _ _ _ k => ato_pick [] rfl rfl k)
  · refine den_skip ?_
    refine den_seq ?_
    refine den_open (fun z4 h_z4 => ?_)
    refine den_open (fun z6 h_z6 => ?_)
    have hB : ∀ (z3α : (Value × Value × Nat)) (S : Nat → Bool) (b4 b9 b11 : Bool), S 4 = b4 → S 9 = b9 → S 11 = b11 → (([.obj false 0 0 (mrep val0_0 (Rep.str) (Rep.int .i64)) s_0.kinds, .obj false 0 0 (mrep val0_1 (T_store_place_rep) (T_api_Value_rep)) s_0.set, .obj false blk0 off0 (.dat (T_store_Store_repo val0_0 val0_1)) s_0, (cond (S 4) (.obj true 0 0 (mrep (z3α.1) (Rep.str) (Rep.int .i64)) z4) (.gone)), (cond (S 9) (.obj true 0 0 (mrep (z3α.2.1) (T_store_place_rep) (T_api_Value_rep)) z6) (.gone)), (cond (S 11) (.obj true (z3α.2.2) 0 (.dat (T_store_Store_repo (z3α.1) (z3α.2.1))) (⟨z4, z6⟩ : T_store_Store)) (.gone))] : List Go.Eng.Item)) = ([.obj false 0 0 (mrep val0_0 (Rep.str) (Rep.int .i64)) s_0.kinds, .obj false 0 0 (mrep val0_1 (T_store_place_rep) (T_api_Value_rep)) s_0.set, .obj false blk0 off0 (.dat (T_store_Store_repo val0_0 val0_1)) s_0, (cond b4 (.obj true 0 0 (mrep (z3α.1) (Rep.str) (Rep.int .i64)) z4) (.gone)), (cond b9 (.obj true 0 0 (mrep (z3α.2.1) (T_store_place_rep) (T_api_Value_rep)) z6) (.gone)), (cond b11 (.obj true (z3α.2.2) 0 (.dat (T_store_Store_repo (z3α.1) (z3α.2.1))) (⟨z4, z6⟩ : T_store_Store)) (.gone))] : List Go.Eng.Item) := fun z3α S b4 b9 b11 h4 h9 h11 => by subst h4; subst h9; subst h11; rfl
    refine den_weak sub_gone ?_
    refine den_weak sub_gone ?_
    refine den_weak sub_gone ?_
    refine den_weak (sub_pick (H' := [.obj false 0 0 (mrep val0_0 (Rep.str) (Rep.int .i64)) s_0.kinds, .obj false 0 0 (mrep val0_1 (T_store_place_rep) (T_api_Value_rep)) s_0.set, .obj false blk0 off0 (.dat (T_store_Store_repo val0_0 val0_1)) s_0, .gone, .gone, .gone]) [3, 4, 5, 0, 1, 2] rfl rfl) ?_
    refine den_drawA (A := (Value × Value × Nat)) (H' := fun z3α => [.obj false 0 0 (mrep val0_0 (Rep.str) (Rep.int .i64)) s_0.kinds, .obj false 0 0 (mrep val0_1 (T_store_place_rep) (T_api_Value_rep)) s_0.set, .obj false blk0 off0 (.dat (T_store_Store_repo val0_0 val0_1)) s_0, .obj true 0 0 (mrep (z3α.1) (Rep.str) (Rep.int .i64)) z4, .obj true 0 0 (mrep (z3α.2.1) (T_store_place_rep) (T_api_Value_rep)) z6, .obj true (z3α.2.2) 0 (.dat (T_store_Store_repo (z3α.1) (z3α.2.1))) (⟨z4, z6⟩ : T_store_Store)]) (fun z3α => [(6, ⟨Rep.addr, (blk0, off0), true⟩), (7, ⟨Rep.addr, (blk0, off0), true⟩), (8, ⟨Rep.addr, (blk0, off0), true⟩), (9, ⟨Rep.val1, val0_0, true⟩), (10, ⟨Rep.val1, z3α.1, true⟩), (11, ⟨Rep.addr, (blk0, off0), true⟩), (12, ⟨Rep.addr, (blk0, off0), true⟩), (13, ⟨Rep.addr, (blk0, off0 + 1), true⟩), (14, ⟨Rep.val1, val0_1, true⟩), (15, ⟨Rep.val1, z3α.2.1, true⟩), (16, ⟨(T_store_Store_repo (z3α.1) (z3α.2.1)), (⟨z4, z6⟩ : T_store_Store), true⟩), (17, ⟨Rep.addr, (z3α.2.2, 0), true⟩), (2, ⟨Rep.addr, (z3α.2.2, 0), true⟩)]) (fun z3α S => [.obj false 0 0 (mrep val0_0 (Rep.str) (Rep.int .i64)) s_0.kinds, .obj false 0 0 (mrep val0_1 (T_store_place_rep) (T_api_Value_rep)) s_0.set, .obj false blk0 off0 (.dat (T_store_Store_repo val0_0 val0_1)) s_0, (cond (S 4) (.obj true 0 0 (mrep (z3α.1) (Rep.str) (Rep.int .i64)) z4) (.gone)), (cond (S 9) (.obj true 0 0 (mrep (z3α.2.1) (T_store_place_rep) (T_api_Value_rep)) z6) (.gone)), (cond (S 11) (.obj true (z3α.2.2) 0 (.dat (T_store_Store_repo (z3α.1) (z3α.2.1))) (⟨z4, z6⟩ : T_store_Store)) (.gone))]) ((Value.slice none 0 0), (Value.slice none 0 0), 0) mixed (fun _ => rfl) rfl rfl (fun z3α S hS => hB z3α S true true true (hS 4 (by decide)) (hS 9 (by decide)) (hS 11 (by decide))) ⟨?_, ?_, ?_, ?_, ?_, ?_, ?_, ?_, ?_, ?_, ?_, ?_, ?_, trivial⟩ (fun z3α => ?_)
    · intro z3α S hc hk hp
      have e4 : S 4 = false := (not_yet (j := 4) (q := 0) hc (not_yet (j := 3) (q := 0) hc (not_yet (j := 2) (q := 0) hc (not_yet (j := 1) (q := 0) hc hk rfl rfl rfl rfl) rfl rfl rfl rfl) rfl rfl rfl rfl) rfl rfl rfl rfl)
      have e9 : S 9 = false := (not_yet (j := 9) (q := 1) hc (not_yet (j := 4) (q := 0) hc (not_yet (j := 3) (q := 0) hc (not_yet (j := 2) (q := 0) hc (not_yet (j := 1) (q := 0) hc hk rfl rfl rfl rfl) rfl rfl rfl rfl) rfl rfl rfl rfl) rfl rfl rfl rfl) rfl rfl rfl rfl)
      have e11 : S 11 = false := (not_yet (j := 11) (q := 0) hc (not_yet (j := 10) (q := 0) hc (not_yet (j := 4) (q := 0) hc (not_yet (j := 3) (q := 0) hc (not_yet (j := 2) (q := 0) hc (not_yet (j := 1) (q := 0) hc hk rfl rfl rfl rfl) rfl rfl rfl rfl) rfl rfl rfl rfl) rfl rfl rfl rfl) rfl rfl rfl rfl) rfl rfl rfl rfl)
      refine eq_H (H' := [.obj false 0 0 (mrep val0_0 (Rep.str) (Rep.int .i64)) s_0.kinds, .obj false 0 0 (mrep val0_1 (T_store_place_rep) (T_api_Value_rep)) s_0.set, .obj false blk0 off0 (.dat (T_store_Store_repo val0_0 val0_1)) s_0, .gone, .gone, .gone]) (by first | exact hB z3α S false false false e4 e9 e11 | (have q := hB z3α S false false false e4 e9 e11; simp only [cond_true, cond_false] at q; exact q)) ?_
      refine o_move rfl rfl guard_none (look_o rfl rfl) (fun _ => rfl) ?_
      apply h_endA (α := z3α) (z3α.1, z3α.2.1, z3α.2.2)
      · exact (.same (.same (.same (.same (.same (.same (.same (.same (.same (.same (.same (.same (.same .nil)))))))))))))
      · exact rfl
      · exact rfl
      · exact rfl
      · exact hB (z3α.1, z3α.2.1, z3α.2.2) (fun k => S k || Nat.beq k 0) false false false (or_f e4 rfl) (or_f e9 rfl) (or_f e11 rfl)
    · intro z3α S hc hk hp
      have e4 : S 4 = false := (not_yet (j := 4) (q := 0) hc (not_yet (j := 3) (q := 0) hc (not_yet (j := 2) (q := 0) hc hk rfl rfl rfl rfl) rfl rfl rfl rfl) rfl rfl rfl rfl)
      have e9 : S 9 = false := (not_yet (j := 9) (q := 1) hc (not_yet (j := 4) (q := 0) hc (not_yet (j := 3) (q := 0) hc (not_yet (j := 2) (q := 0) hc hk rfl rfl rfl rfl) rfl rfl rfl rfl) rfl rfl rfl rfl) rfl rfl rfl rfl)
      have e11 : S 11 = false := (not_yet (j := 11) (q := 0) hc (not_yet (j := 10) (q := 0) hc (not_yet (j := 4) (q := 0) hc (not_yet (j := 3) (q := 0) hc (not_yet (j := 2) (q := 0) hc hk rfl rfl rfl rfl) rfl rfl rfl rfl) rfl rfl rfl rfl) rfl rfl rfl rfl) rfl rfl rfl rfl)
      refine eq_H (H' := [.obj false 0 0 (mrep val0_0 (Rep.str) (Rep.int .i64)) s_0.kinds, .obj false 0 0 (mrep val0_1 (T_store_place_rep) (T_api_Value_rep)) s_0.set, .obj false blk0 off0 (.dat (T_store_Store_repo val0_0 val0_1)) s_0, .gone, .gone, .gone]) (by first | exact hB z3α S false false false e4 e9 e11 | (have q := hB z3α S false false false e4 e9 e11; simp only [cond_true, cond_false] at q; exact q)) ?_
      refine o_nilc rfl rfl guard_none (look_d rfl rfl (pr hp 0 rfl rfl)) (fun _ => rfl) ?_
      apply h_endA (α := z3α) (z3α.1, z3α.2.1, z3α.2.2)
      · exact (.same (.same (.same (.same (.same (.same (.same (.same (.same (.same (.same (.same (.same .nil)))))))))))))
      · exact rfl
      · exact rfl
      · exact rfl
      · exact hB (z3α.1, z3α.2.1, z3α.2.2) (fun k => S k || Nat.beq k 1) false false false (or_f e4 rfl) (or_f e9 rfl) (or_f e11 rfl)
    · intro z3α S hc hk hp
      have e4 : S 4 = false := (not_yet (j := 4) (q := 0) hc (not_yet (j := 3) (q := 0) hc hk rfl rfl rfl rfl) rfl rfl rfl rfl)
      have e9 : S 9 = false := (not_yet (j := 9) (q := 1) hc (not_yet (j := 4) (q := 0) hc (not_yet (j := 3) (q := 0) hc hk rfl rfl rfl rfl) rfl rfl rfl rfl) rfl rfl rfl rfl)
      have e11 : S 11 = false := (not_yet (j := 11) (q := 0) hc (not_yet (j := 10) (q := 0) hc (not_yet (j := 4) (q := 0) hc (not_yet (j := 3) (q := 0) hc hk rfl rfl rfl rfl) rfl rfl rfl rfl) rfl rfl rfl rfl) rfl rfl rfl rfl)
      refine eq_H (H' := [.obj false 0 0 (mrep val0_0 (Rep.str) (Rep.int .i64)) s_0.kinds, .obj false 0 0 (mrep val0_1 (T_store_place_rep) (T_api_Value_rep)) s_0.set, .obj false blk0 off0 (.dat (T_store_Store_repo val0_0 val0_1)) s_0, .gone, .gone, .gone]) (by first | exact hB z3α S false false false e4 e9 e11 | (have q := hB z3α S false false false e4 e9 e11; simp only [cond_true, cond_false] at q; exact q)) ?_
      refine o_faddr field52_0 type49 (by decide) rfl rfl guard_none (look_d rfl rfl (pr hp 0 rfl rfl)) (fun _ => rfl) ?_
      apply h_endA (α := z3α) (z3α.1, z3α.2.1, z3α.2.2)
      · exact (.same (.same (.same (.same (.same (.same (.same (.same (.same (.same (.same (.same (.same .nil)))))))))))))
      · exact rfl
      · exact rfl
      · exact rfl
      · exact hB (z3α.1, z3α.2.1, z3α.2.2) (fun k => S k || Nat.beq k 2) false false false (or_f e4 rfl) (or_f e9 rfl) (or_f e11 rfl)
    · intro z3α S hc hk hp
      have e4 : S 4 = false := (not_yet (j := 4) (q := 0) hc hk rfl rfl rfl rfl)
      have e9 : S 9 = false := (not_yet (j := 9) (q := 1) hc (not_yet (j := 4) (q := 0) hc hk rfl rfl rfl rfl) rfl rfl rfl rfl)
      have e11 : S 11 = false := (not_yet (j := 11) (q := 0) hc (not_yet (j := 10) (q := 0) hc (not_yet (j := 4) (q := 0) hc hk rfl rfl rfl rfl) rfl rfl rfl rfl) rfl rfl rfl rfl)
      refine eq_H (H' := [.obj false 0 0 (mrep val0_0 (Rep.str) (Rep.int .i64)) s_0.kinds, .obj false 0 0 (mrep val0_1 (T_store_place_rep) (T_api_Value_rep)) s_0.set, .obj false blk0 off0 (.dat (T_store_Store_repo val0_0 val0_1)) s_0, .gone, .gone, .gone]) (by first | exact hB z3α S false false false e4 e9 e11 | (have q := hB z3α S false false false e4 e9 e11; simp only [cond_true, cond_false] at q; exact q)) ?_
      refine o_oloadi 2 rfl (typeisv49 val0_0) (T_store_Store_foco0 val0_0 val0_1) rfl guard_none (look_d rfl rfl (pr hp 0 rfl rfl)) (fun _ => rfl) ?_
      refine o_asv ?_
      apply h_endA (α := z3α) (z3α.1, z3α.2.1, z3α.2.2)
      · exact (.same (.same (.same (.same (.same (.same (.same (.same (.same (.same (.same (.same (.same .nil)))))))))))))
      · exact rfl
      · exact rfl
      · exact rfl
      · exact hB (z3α.1, z3α.2.1, z3α.2.2) (fun k => S k || Nat.beq k 3) false false false (or_f e4 rfl) (or_f e9 rfl) (or_f e11 rfl)
    · intro z3α S hc hk hp
      have e9 : S 9 = false := (not_yet (j := 9) (q := 1) hc hk rfl rfl rfl rfl)
      have e11 : S 11 = false := (not_yet (j := 11) (q := 0) hc (not_yet (j := 10) (q := 0) hc hk rfl rfl rfl rfl) rfl rfl rfl rfl)
      refine eq_H (H' := [.obj false 0 0 (mrep val0_0 (Rep.str) (Rep.int .i64)) s_0.kinds, .obj false 0 0 (mrep val0_1 (T_store_place_rep) (T_api_Value_rep)) s_0.set, .obj false blk0 off0 (.dat (T_store_Store_repo val0_0 val0_1)) s_0, .gone, .gone, .gone]) (by first | exact hB z3α S false false false hk e9 e11 | (have q := hB z3α S false false false hk e9 e11; simp only [cond_true, cond_false] at q; exact q)) ?_
      refine o_from (bind_eqO h_z4) ?_
      refine o_weak (H' := [] ++ ([.obj false 0 0 (mrep val0_0 (Rep.str) (Rep.int .i64)) s_0.kinds] ++ [.obj false 0 0 (mrep val0_1 (T_store_place_rep) (T_api_Value_rep)) s_0.set, .obj false blk0 off0 (.dat (T_store_Store_repo val0_0 val0_1)) s_0, .gone, .gone, .gone])) (sub_pick [0, 1, 2, 3, 4, 5] rfl rfl) ?_
      refine o_callU rfl rfl rfl rfl rfl callable56 (looks_cons (look_d rfl rfl (pr hp 0 rfl rfl)) (fun _ => rfl) (looks_nil)) (.cons .nil) (maps_Clone_56_ok _ s_0.kinds) (fun _ _ => (wr_c wr_n)) (fun z5α => o_eqOH ?_)
      refine o_weak (H' := [.obj true 0 0 (mrep z5α (Rep.str) (Rep.int .i64)) z4, .obj false 0 0 (mrep val0_0 (Rep.str) (Rep.int .i64)) s_0.kinds, .obj false 0 0 (mrep val0_1 (T_store_place_rep) (T_api_Value_rep)) s_0.set, .obj false blk0 off0 (.dat (T_store_Store_repo val0_0 val0_1)) s_0, .gone, .gone, .gone]) (sub_pick [0, 1, 2, 3, 4, 5, 6] rfl rfl) ?_
      refine o_weak (H' := [.obj false 0 0 (mrep val0_0 (Rep.str) (Rep.int .i64)) s_0.kinds, .obj false 0 0 (mrep val0_1 (T_store_place_rep) (T_api_Value_rep)) s_0.set, .obj false blk0 off0 (.dat (T_store_Store_repo val0_0 val0_1)) s_0, .obj true 0 0 (mrep z5α (Rep.str) (Rep.int .i64)) z4, .gone, .gone]) (sub_pick [1, 2, 3, 0, 5, 6] rfl rfl) ?_
      apply h_endA (α := z3α) (z5α, z3α.2.1, z3α.2.2)
      · exact (.same (.same (.same (.same (.off hk (.same (.same (.same (.same (.same (.off (not_yet (j := 10) (q := 0) hc hk rfl rfl rfl rfl) (.same (.same .nil)))))))))))))
      · exact rfl
      · exact rfl
      · exact rfl
      · exact hB (z5α, z3α.2.1, z3α.2.2) (fun k => S k || Nat.beq k 4) true false false (or_i rfl) (or_f e9 rfl) (or_f e11 rfl)
    · intro z3α S hc hk hp
      have e9 : S 9 = false := (not_yet (j := 9) (q := 0) hc (not_yet (j := 8) (q := 0) hc (not_yet (j := 7) (q := 0) hc (not_yet (j := 6) (q := 0) hc hk rfl rfl rfl rfl) rfl rfl rfl rfl) rfl rfl rfl rfl) rfl rfl rfl rfl)
      have e11 : S 11 = false := (not_yet (j := 11) (q := 0) hc (not_yet (j := 10) (q := 1) hc (not_yet (j := 9) (q := 0) hc (not_yet (j := 8) (q := 0) hc (not_yet (j := 7) (q := 0) hc (not_yet (j := 6) (q := 0) hc hk rfl rfl rfl rfl) rfl rfl rfl rfl) rfl rfl rfl rfl) rfl rfl rfl rfl) rfl rfl rfl rfl) rfl rfl rfl rfl)
      refine eq_H (H' := [.obj false 0 0 (mrep val0_0 (Rep.str) (Rep.int .i64)) s_0.kinds, .obj false 0 0 (mrep val0_1 (T_store_place_rep) (T_api_Value_rep)) s_0.set, .obj false blk0 off0 (.dat (T_store_Store_repo val0_0 val0_1)) s_0, (cond (S 4) (.obj true 0 0 (mrep (z3α.1) (Rep.str) (Rep.int .i64)) z4) (.gone)), .gone, .gone]) (by first | exact hB z3α S (S 4) false false rfl e9 e11 | (have q := hB z3α S (S 4) false false rfl e9 e11; simp only [cond_true, cond_false] at q; exact q)) ?_
      refine o_move rfl rfl guard_none (look_o rfl rfl) (fun _ => rfl) ?_
      apply h_endA (α := z3α) (z3α.1, z3α.2.1, z3α.2.2)
      · exact (.same (.same (.same (.same (.same (.same (.same (.same (.same (.same (.same (.same (.same .nil)))))))))))))
      · exact rfl
      · exact rfl
      · exact rfl
      · exact hB (z3α.1, z3α.2.1, z3α.2.2) (fun k => S k || Nat.beq k 5) (S 4) false false (or_ne rfl) (or_f e9 rfl) (or_f e11 rfl)
    · intro z3α S hc hk hp
      have e9 : S 9 = false := (not_yet (j := 9) (q := 0) hc (not_yet (j := 8) (q := 0) hc (not_yet (j := 7) (q := 0) hc hk rfl rfl rfl rfl) rfl rfl rfl rfl) rfl rfl rfl rfl)
      have e11 : S 11 = false := (not_yet (j := 11) (q := 0) hc (not_yet (j := 10) (q := 1) hc (not_yet (j := 9) (q := 0) hc (not_yet (j := 8) (q := 0) hc (not_yet (j := 7) (q := 0) hc hk rfl rfl rfl rfl) rfl rfl rfl rfl) rfl rfl rfl rfl) rfl rfl rfl rfl) rfl rfl rfl rfl)
      refine eq_H (H' := [.obj false 0 0 (mrep val0_0 (Rep.str) (Rep.int .i64)) s_0.kinds, .obj false 0 0 (mrep val0_1 (T_store_place_rep) (T_api_Value_rep)) s_0.set, .obj false blk0 off0 (.dat (T_store_Store_repo val0_0 val0_1)) s_0, (cond (S 4) (.obj true 0 0 (mrep (z3α.1) (Rep.str) (Rep.int .i64)) z4) (.gone)), .gone, .gone]) (by first | exact hB z3α S (S 4) false false rfl e9 e11 | (have q := hB z3α S (S 4) false false rfl e9 e11; simp only [cond_true, cond_false] at q; exact q)) ?_
      refine o_nilc rfl rfl guard_none (look_d rfl rfl (pr hp 0 rfl rfl)) (fun _ => rfl) ?_
      apply h_endA (α := z3α) (z3α.1, z3α.2.1, z3α.2.2)
      · exact (.same (.same (.same (.same (.same (.same (.same (.same (.same (.same (.same (.same (.same .nil)))))))))))))
      · exact rfl
      · exact rfl
      · exact rfl
      · exact hB (z3α.1, z3α.2.1, z3α.2.2) (fun k => S k || Nat.beq k 6) (S 4) false false (or_ne rfl) (or_f e9 rfl) (or_f e11 rfl)
    · intro z3α S hc hk hp
      have e9 : S 9 = false := (not_yet (j := 9) (q := 0) hc (not_yet (j := 8) (q := 0) hc hk rfl rfl rfl rfl) rfl rfl rfl rfl)
      have e11 : S 11 = false := (not_yet (j := 11) (q := 0) hc (not_yet (j := 10) (q := 1) hc (not_yet (j := 9) (q := 0) hc (not_yet (j := 8) (q := 0) hc hk rfl rfl rfl rfl) rfl rfl rfl rfl) rfl rfl rfl rfl) rfl rfl rfl rfl)
      refine eq_H (H' := [.obj false 0 0 (mrep val0_0 (Rep.str) (Rep.int .i64)) s_0.kinds, .obj false 0 0 (mrep val0_1 (T_store_place_rep) (T_api_Value_rep)) s_0.set, .obj false blk0 off0 (.dat (T_store_Store_repo val0_0 val0_1)) s_0, (cond (S 4) (.obj true 0 0 (mrep (z3α.1) (Rep.str) (Rep.int .i64)) z4) (.gone)), .gone, .gone]) (by first | exact hB z3α S (S 4) false false rfl e9 e11 | (have q := hB z3α S (S 4) false false rfl e9 e11; simp only [cond_true, cond_false] at q; exact q)) ?_
      refine o_faddr field52_1 type50 (by decide) rfl rfl guard_none (look_d rfl rfl (pr hp 0 rfl rfl)) (fun _ => rfl) ?_
      apply h_endA (α := z3α) (z3α.1, z3α.2.1, z3α.2.2)
      · exact (.same (.same (.same (.same (.same (.same (.same (.same (.same (.same (.same (.same (.same .nil)))))))))))))
      · exact rfl
      · exact rfl
      · exact rfl
      · exact hB (z3α.1, z3α.2.1, z3α.2.2) (fun k => S k || Nat.beq k 7) (S 4) false false (or_ne rfl) (or_f e9 rfl) (or_f e11 rfl)
    · intro z3α S hc hk hp
      have e9 : S 9 = false := (not_yet (j := 9) (q := 0) hc hk rfl rfl rfl rfl)
      have e11 : S 11 = false := (not_yet (j := 11) (q := 0) hc (not_yet (j := 10) (q := 1) hc (not_yet (j := 9) (q := 0) hc hk rfl rfl rfl rfl) rfl rfl rfl rfl) rfl rfl rfl rfl)
      refine eq_H (H' := [.obj false 0 0 (mrep val0_0 (Rep.str) (Rep.int .i64)) s_0.kinds, .obj false 0 0 (mrep val0_1 (T_store_place_rep) (T_api_Value_rep)) s_0.set, .obj false blk0 off0 (.dat (T_store_Store_repo val0_0 val0_1)) s_0, (cond (S 4) (.obj true 0 0 (mrep (z3α.1) (Rep.str) (Rep.int .i64)) z4) (.gone)), .gone, .gone]) (by first | exact hB z3α S (S 4) false false rfl e9 e11 | (have q := hB z3α S (S 4) false false rfl e9 e11; simp only [cond_true, cond_false] at q; exact q)) ?_
      refine o_oloadi 2 rfl (typeisv50 val0_1) (T_store_Store_foco1 val0_0 val0_1) rfl guard_none (look_d rfl rfl (pr hp 0 rfl rfl)) (fun _ => rfl) ?_
      refine o_asv ?_
      apply h_endA (α := z3α) (z3α.1, z3α.2.1, z3α.2.2)
      · exact (.same (.same (.same (.same (.same (.same (.same (.same (.same (.same (.same (.same (.same .nil)))))))))))))
      · exact rfl
      · exact rfl
      · exact rfl
      · exact hB (z3α.1, z3α.2.1, z3α.2.2) (fun k => S k || Nat.beq k 8) (S 4) false false (or_ne rfl) (or_f e9 rfl) (or_f e11 rfl)
    · intro z3α S hc hk hp
      have e4 : S 4 = true := (pr hp 1 rfl rfl)
      have e11 : S 11 = false := (not_yet (j := 11) (q := 0) hc (not_yet (j := 10) (q := 1) hc hk rfl rfl rfl rfl) rfl rfl rfl rfl)
      refine eq_H (H' := [.obj false 0 0 (mrep val0_0 (Rep.str) (Rep.int .i64)) s_0.kinds, .obj false 0 0 (mrep val0_1 (T_store_place_rep) (T_api_Value_rep)) s_0.set, .obj false blk0 off0 (.dat (T_store_Store_repo val0_0 val0_1)) s_0, .obj true 0 0 (mrep (z3α.1) (Rep.str) (Rep.int .i64)) z4, .gone, .gone]) (by first | exact hB z3α S true false false e4 hk e11 | (have q := hB z3α S true false false e4 hk e11; simp only [cond_true, cond_false] at q; exact q)) ?_
      refine o_from (bind_eqO h_z6) ?_
      refine o_weak (H' := [] ++ ([.obj false 0 0 (mrep val0_1 (T_store_place_rep) (T_api_Value_rep)) s_0.set] ++ [.obj false 0 0 (mrep val0_0 (Rep.str) (Rep.int .i64)) s_0.kinds, .obj false blk0 off0 (.dat (T_store_Store_repo val0_0 val0_1)) s_0, .obj true 0 0 (mrep (z3α.1) (Rep.str) (Rep.int .i64)) z4, .gone, .gone])) (sub_pick [1, 0, 2, 3, 4, 5] rfl rfl) ?_
      refine o_callU rfl rfl rfl rfl rfl callable57 (looks_cons (look_d rfl rfl (pr hp 0 rfl rfl)) (fun _ => rfl) (looks_nil)) (.cons .nil) (maps_Clone_57_ok _ s_0.set) (fun _ _ => (wr_c wr_n)) (fun z7α => o_eqOH ?_)
      refine o_weak (H' := [.obj true 0 0 (mrep z7α (T_store_place_rep) (T_api_Value_rep)) z6, .obj false 0 0 (mrep val0_1 (T_store_place_rep) (T_api_Value_rep)) s_0.set, .obj false 0 0 (mrep val0_0 (Rep.str) (Rep.int .i64)) s_0.kinds, .obj false blk0 off0 (.dat (T_store_Store_repo val0_0 val0_1)) s_0, .obj true 0 0 (mrep (z3α.1) (Rep.str) (Rep.int .i64)) z4, .gone, .gone]) (sub_pick [0, 1, 2, 3, 4, 5, 6] rfl rfl) ?_
      refine o_weak (H' := [.obj false 0 0 (mrep val0_0 (Rep.str) (Rep.int .i64)) s_0.kinds, .obj false 0 0 (mrep val0_1 (T_store_place_rep) (T_api_Value_rep)) s_0.set, .obj false blk0 off0 (.dat (T_store_Store_repo val0_0 val0_1)) s_0, .obj true 0 0 (mrep (z3α.1) (Rep.str) (Rep.int .i64)) z4, .obj true 0 0 (mrep z7α (T_store_place_rep) (T_api_Value_rep)) z6, .gone]) (sub_pick [2, 1, 3, 4, 0, 6] rfl rfl) ?_
      apply h_endA (α := z3α) (z3α.1, z7α, z3α.2.2)
      · exact (.same (.same (.same (.same (.same (.same (.same (.same (.same (.off hk (.off (not_yet (j := 10) (q := 1) hc hk rfl rfl rfl rfl) (.same (.same .nil)))))))))))))
      · exact rfl
      · exact rfl
      · exact rfl
      · exact hB (z3α.1, z7α, z3α.2.2) (fun k => S k || Nat.beq k 9) true true false (or_t e4) (or_i rfl) (or_f e11 rfl)
    · intro z3α S hc hk hp
      have e4 : S 4 = true := (pr hp 0 rfl rfl)
      have e9 : S 9 = true := (pr hp 1 rfl rfl)
      have e11 : S 11 = false := (not_yet (j := 11) (q := 0) hc hk rfl rfl rfl rfl)
      refine eq_H (H' := [.obj false 0 0 (mrep val0_0 (Rep.str) (Rep.int .i64)) s_0.kinds, .obj false 0 0 (mrep val0_1 (T_store_place_rep) (T_api_Value_rep)) s_0.set, .obj false blk0 off0 (.dat (T_store_Store_repo val0_0 val0_1)) s_0, .obj true 0 0 (mrep (z3α.1) (Rep.str) (Rep.int .i64)) z4, .obj true 0 0 (mrep (z3α.2.1) (T_store_place_rep) (T_api_Value_rep)) z6, .gone]) (by first | exact hB z3α S true true false e4 e9 e11 | (have q := hB z3α S true true false e4 e9 e11; simp only [cond_true, cond_false] at q; exact q)) ?_
      refine o_build (R := T_store_Store_repo0 (z3α.1) (z3α.2.1)) (f := T_store_Store_tupo) (y := (⟨z4, z6⟩ : T_store_Store)) shape52 rfl rfl rfl rfl guard_none (bld_part rfl rfl (look_isvm 3 (mapi rfl) (look_d rfl rfl (pr hp 0 rfl rfl))) (fun _ => rfl) (bld_part rfl rfl (look_isvm 4 (mapi rfl) (look_d rfl rfl (pr hp 1 rfl rfl))) (fun _ => rfl) (bld_nil))) ?_
      apply h_endA (α := z3α) (z3α.1, z3α.2.1, z3α.2.2)
      · exact (.same (.same (.same (.same (.same (.same (.same (.same (.same (.same (.same (.same (.same .nil)))))))))))))
      · exact rfl
      · exact rfl
      · exact rfl
      · exact hB (z3α.1, z3α.2.1, z3α.2.2) (fun k => S k || Nat.beq k 10) true true false (or_t e4) (or_t e9) (or_f e11 rfl)
    · intro z3α S hc hk hp
      have e4 : S 4 = true := (pr (hc 10 _ rfl (pr hp 0 rfl rfl)) 0 rfl rfl)
      have e9 : S 9 = true := (pr (hc 10 _ rfl (pr hp 0 rfl rfl)) 1 rfl rfl)
      refine eq_H (H' := [.obj false 0 0 (mrep val0_0 (Rep.str) (Rep.int .i64)) s_0.kinds, .obj false 0 0 (mrep val0_1 (T_store_place_rep) (T_api_Value_rep)) s_0.set, .obj false blk0 off0 (.dat (T_store_Store_repo val0_0 val0_1)) s_0, .obj true 0 0 (mrep (z3α.1) (Rep.str) (Rep.int .i64)) z4, .obj true 0 0 (mrep (z3α.2.1) (T_store_place_rep) (T_api_Value_rep)) z6, .gone]) (by first | exact hB z3α S true true false e4 e9 hk | (have q := hB z3α S true true false e4 e9 hk; simp only [cond_true, cond_false] at q; exact q)) ?_
      refine o_box rfl rfl (look_d rfl rfl (pr hp 0 rfl rfl)) rfl (fun z8 => ?_)
      refine o_weak (H' := [.obj false 0 0 (mrep val0_0 (Rep.str) (Rep.int .i64)) s_0.kinds, .obj false 0 0 (mrep val0_1 (T_store_place_rep) (T_api_Value_rep)) s_0.set, .obj false blk0 off0 (.dat (T_store_Store_repo val0_0 val0_1)) s_0, .obj true 0 0 (mrep (z3α.1) (Rep.str) (Rep.int .i64)) z4, .obj true 0 0 (mrep (z3α.2.1) (T_store_place_rep) (T_api_Value_rep)) z6, .obj true z8 0 (.dat (T_store_Store_repo (z3α.1) (z3α.2.1))) (⟨z4, z6⟩ : T_store_Store)]) (sub_pick [1, 2, 3, 4, 5, 0] rfl rfl) ?_
      apply h_endA (α := z3α) (z3α.1, z3α.2.1, z8)
      · exact (.same (.same (.same (.same (.same (.same (.same (.same (.same (.same (.same (.off hk (.off (not_yet (j := 12) (q := 0) hc hk rfl rfl rfl rfl) .nil)))))))))))))
      · exact rfl
      · exact rfl
      · exact rfl
      · exact hB (z3α.1, z3α.2.1, z8) (fun k => S k || Nat.beq k 11) true true true (or_t e4) (or_t e9) (or_i rfl)
    · intro z3α S hc hk hp
      have e4 : S 4 = true := (pr hp 6 rfl rfl)
      have e9 : S 9 = true := (pr hp 1 rfl rfl)
      have e11 : S 11 = true := (pr hp 0 rfl rfl)
      refine eq_H (H' := [.obj false 0 0 (mrep val0_0 (Rep.str) (Rep.int .i64)) s_0.kinds, .obj false 0 0 (mrep val0_1 (T_store_place_rep) (T_api_Value_rep)) s_0.set, .obj false blk0 off0 (.dat (T_store_Store_repo val0_0 val0_1)) s_0, .obj true 0 0 (mrep (z3α.1) (Rep.str) (Rep.int .i64)) z4, .obj true 0 0 (mrep (z3α.2.1) (T_store_place_rep) (T_api_Value_rep)) z6, .obj true (z3α.2.2) 0 (.dat (T_store_Store_repo (z3α.1) (z3α.2.1))) (⟨z4, z6⟩ : T_store_Store)]) (by first | exact hB z3α S true true true e4 e9 e11 | (have q := hB z3α S true true true e4 e9 e11; simp only [cond_true, cond_false] at q; exact q)) ?_
      refine o_assign rfl rfl guard_none (look_d rfl rfl (pr hp 0 rfl rfl)) (fun _ => rfl) ?_
      apply h_endA (α := z3α) (z3α.1, z3α.2.1, z3α.2.2)
      · exact (.same (.same (.same (.same (.same (.same (.same (.same (.same (.same (.same (.same (.same .nil)))))))))))))
      · exact rfl
      · exact rfl
      · exact rfl
      · exact hB (z3α.1, z3α.2.1, z3α.2.2) (fun k => S k || Nat.beq k 12) true true true (or_t e4) (or_t e9) (or_t e11)
    refine den_code_ret ?_
    exact dene_resI ((z3α.2.2, 0), z3α.1, z3α.2.1) (res1 rfl (rv_optr rfl)) (fun _ _ _ k => ato_pick [3, 4, 5] rfl rfl k)

theorem store_Store_made_n0_ok   : FunOk Try.prog 55 [⟨.nilp, (), true⟩] (store_Store_made_n0) (Rep.bool) := by
  refine fun_ok Try.func55 rfl Try.ntmps55 rfl (all_cons rfl all_nil) (fun w0 ok0 => ?_)
  refine den_seq ?_
  refine den_region rfl ?_
  refine o_assign rfl rfl guard_none look_bool (fun _ => rfl) ?_
  refine o_end ?_
  refine den_seq ?_
  refine den_region rfl ?_
  refine o_move rfl rfl guard_none (look_tmp rfl) (fun _ => rfl) ?_
  refine o_nneq Try.underlying30 rfl rfl guard_none (look_tmp rfl) (fun _ => rfl) ?_
  refine o_move rfl rfl guard_none (look_tmp rfl) (fun _ => rfl) ?_
  refine o_move rfl rfl (guard_some rfl rfl rfl) (look_tmp rfl) (fun _ => rfl) ?_
  refine o_bad (R := Rep.unit) rfl rfl (guard_some rfl rfl rfl) (fun z1 => ?_)
  refine o_bad (R := Rep.unit) rfl rfl (guard_some rfl rfl rfl) (fun z2 => ?_)
  refine o_bad (R := Rep.unit) rfl rfl (guard_some rfl rfl rfl) (fun z3 => ?_)
  refine o_bad (R := Rep.bool) rfl rfl (guard_some rfl rfl rfl) (fun z4 => ?_)
  refine o_pick rfl rfl guard_none (look_tmp rfl) (look_tmp rfl) look_bool (fun _ => rfl) (fun h1 h2 => pick_t ((fun _ => rfl) h1) h2) (fun _ _ => rfl) ?_
  refine o_assign rfl rfl guard_none (look_tmp rfl) (fun _ => rfl) ?_
  refine o_end ?_
  refine den_code_ret ?_
  exact dene_res (res1 rfl (rv_tmp rfl))

theorem store_Store_Kind_n0_ok  (name_1 : Bytes) : FunOk Try.prog 28 [⟨.nilp, (), true⟩, ⟨Rep.str, name_1, true⟩] (store_Store_Kind_n0 name_1) (Rep.int .i64) := by
  refine fun_ok Try.func28 rfl Try.ntmps28 rfl (all_cons rfl (all_cons rfl all_nil)) (fun w0 ok0 => ?_)
  refine den_seq ?_
  refine den_region rfl ?_
  refine o_assign rfl rfl guard_none (look_int rfl) (fun _ => rfl) ?_
  refine o_end ?_
  refine den_seq ?_
  refine den_seq ?_
  refine den_region rfl ?_
  refine o_move rfl rfl guard_none (look_tmp rfl) (fun _ => rfl) ?_
  refine o_call rfl rfl rfl callable55 (looks_cons (look_tmp rfl) (fun _ => rfl) (looks_nil)) (store_Store_made_n0_ok) (fun z1 => ?_)
  refine o_not rfl rfl guard_none (look_tmp rfl) (fun _ => rfl) ?_
  refine o_end ?_
  refine den_cond (look_tmp rfl) ?_ ?_
  · refine den_seq ?_
    refine den_region rfl ?_
    refine o_assign rfl rfl guard_none (look_int rfl) (fun _ => rfl) ?_
    refine o_end ?_
    refine den_code_ret ?_
    refine dene_ret ?_
    exact dene_res (res1 rfl (rv_tmp rfl))
  · refine den_skip ?_
    refine den_seq ?_
    refine den_region rfl ?_
    refine o_move rfl rfl guard_none (look_tmp rfl) (fun _ => rfl) ?_
    exact o_none

theorem store_Store_Set_n0_ok  (entity_1 : Bytes) (name_2 : Bytes) (v_3 : T_api_Value) : FunOk Try.prog 21 [⟨.nilp, (), true⟩, ⟨Rep.str, entity_1, true⟩, ⟨Rep.str, name_2, true⟩, ⟨T_api_Value_rep, v_3, true⟩] (store_Store_Set_n0 entity_1 name_2 v_3) (Rep.int .i64) := by
  refine fun_ok Try.func21 rfl Try.ntmps21 rfl (all_cons rfl (all_cons rfl (all_cons rfl (all_cons rfl all_nil)))) (fun w0 ok0 => ?_)
  refine den_seq ?_
  refine den_region rfl ?_
  refine o_box rfl rfl (look_tmp rfl) rfl (fun z1 => ?_)
  refine o_assign rfl rfl guard_none (look_int rfl) (fun _ => rfl) ?_
  refine o_end ?_
  refine den_seq ?_
  refine den_seq ?_
  refine den_region rfl ?_
  refine o_move rfl rfl guard_none (look_tmp rfl) (fun _ => rfl) ?_
  refine o_call rfl rfl rfl callable55 (looks_cons (look_tmp rfl) (fun _ => rfl) (looks_nil)) (store_Store_made_n0_ok) (fun z2 => ?_)
  refine o_not rfl rfl guard_none (look_tmp rfl) (fun _ => rfl) ?_
  refine o_end ?_
  refine den_cond (look_tmp rfl) ?_ ?_
  · refine den_seq ?_
    refine den_region rfl ?_
    refine o_assign rfl rfl guard_none (look_int rfl) (fun _ => rfl) ?_
    refine o_end ?_
    refine den_code_ret ?_
    refine dene_ret ?_
    exact dene_res (res1 rfl (rv_tmp rfl))
  · refine den_skip ?_
    refine den_seq ?_
    refine den_region rfl ?_
    refine o_move rfl rfl guard_none (look_tmp rfl) (fun _ => rfl) ?_
    refine o_move rfl rfl guard_none (look_tmp rfl) (fun _ => rfl) ?_
    refine o_call rfl rfl rfl callable28 (looks_cons (look_tmp rfl) (fun _ => rfl) (looks_cons (look_tmp rfl) (fun _ => rfl) (looks_nil))) (store_Store_Kind_n0_ok _) (fun z3 => ?_)
    refine o_assign rfl rfl guard_none (look_tmp rfl) (fun _ => rfl) ?_
    refine o_end ?_
    refine den_seq ?_
    refine den_seq ?_
    refine den_region rfl ?_
    refine o_move rfl rfl guard_none (look_tmp rfl) (fun _ => rfl) ?_
    refine o_eql rfl rfl guard_none (look_tmp rfl) (look_int rfl) (fun _ => rfl) (fun _ => rfl) ?_
    refine o_end ?_
    refine den_cond (look_tmp rfl) ?_ ?_
    · refine den_seq ?_
      refine den_region rfl ?_
      refine o_assign rfl rfl guard_none (look_int rfl) (fun _ => rfl) ?_
      refine o_end ?_
      refine den_code_ret ?_
      refine dene_ret ?_
      exact dene_res (res1 rfl (rv_tmp rfl))
    · refine den_skip ?_
      refine den_seq ?_
      refine den_seq ?_
      refine den_region rfl ?_
      refine o_faddr field39_0 type3 (by decide) rfl rfl guard_none (look_tmp rfl) (fun _ => rfl) ?_
      refine o_oloadi 0 rfl type3 T_api_Value_foc0 rfl guard_none (look_tmp rfl) (fun _ => rfl) ?_
      refine o_move rfl rfl guard_none (look_tmp rfl) (fun _ => rfl) ?_
      refine o_neq rfl rfl guard_none (look_tmp rfl) (look_tmp rfl) (fun _ => rfl) (fun _ => rfl) ?_
      refine o_end ?_
      refine den_cond (look_tmp rfl) ?_ ?_
      · refine den_seq ?_
        refine den_region rfl ?_
        refine o_assign rfl rfl guard_none (look_int rfl) (fun _ => rfl) ?_
        refine o_end ?_
        refine den_code_ret ?_
        refine dene_ret ?_
        exact dene_res (res1 rfl (rv_tmp rfl))
      · refine den_skip ?_
        refine den_seq ?_
        refine den_seq ?_
        refine den_region rfl ?_
        refine o_oloadi 0 rfl type39 foc_self rfl guard_none (look_tmp rfl) (fun _ => rfl) ?_
        refine o_call rfl rfl rfl callable58 (looks_cons (look_tmp rfl) (fun _ => rfl) (looks_nil)) (value_Check_ok _) (fun z4 => ?_)
        refine o_assign rfl rfl guard_none (look_tmp rfl) (fun _ => rfl) ?_
        refine o_end ?_
        refine den_seq ?_
        refine den_region rfl ?_
        refine o_move rfl rfl guard_none (look_tmp rfl) (fun _ => rfl) ?_
        refine o_neq rfl rfl guard_none (look_tmp rfl) (look_int rfl) (fun _ => rfl) (fun _ => rfl) ?_
        refine o_end ?_
        refine den_cond (look_tmp rfl) ?_ ?_
        · refine den_seq ?_
          refine den_region rfl ?_
          refine o_move rfl rfl guard_none (look_tmp rfl) (fun _ => rfl) ?_
          refine o_assign rfl rfl guard_none (look_tmp rfl) (fun _ => rfl) ?_
          refine o_end ?_
          refine den_code_ret ?_
          refine dene_ret ?_
          exact dene_res (res1 rfl (rv_tmp rfl))
        · refine den_skip ?_
          refine den_seq ?_
          exact den_none

theorem store_Store_Get_n0_ok  (entity_1 : Bytes) (name_2 : Bytes) : FunOk Try.prog 23 [⟨.nilp, (), true⟩, ⟨Rep.str, entity_1, true⟩, ⟨Rep.str, name_2, true⟩] (store_Store_Get_n0 entity_1 name_2) (Rep.pair (T_api_Value_rep) (Rep.bool)) := by
  refine fun_ok Try.func23 rfl Try.ntmps23 rfl (all_cons rfl (all_cons rfl (all_cons rfl all_nil))) (fun w0 ok0 => ?_)
  refine den_seq ?_
  refine den_region rfl ?_
  refine o_alloc zero39 rfl rfl (fun z1 => ?_)
  refine o_assign rfl rfl guard_none look_bool (fun _ => rfl) ?_
  refine o_end ?_
  refine den_seq ?_
  refine den_region rfl ?_
  refine o_move rfl rfl guard_none (look_tmp rfl) (fun _ => rfl) ?_
  refine o_move rfl rfl guard_none (look_tmp rfl) (fun _ => rfl) ?_
  refine o_call rfl rfl rfl callable28 (looks_cons (look_tmp rfl) (fun _ => rfl) (looks_cons (look_tmp rfl) (fun _ => rfl) (looks_nil))) (store_Store_Kind_n0_ok _) (fun z2 => ?_)
  refine o_assign rfl rfl guard_none (look_tmp rfl) (fun _ => rfl) ?_
  refine o_end ?_
  refine den_seq ?_
  refine den_seq ?_
  refine den_region rfl ?_
  refine o_move rfl rfl guard_none (look_tmp rfl) (fun _ => rfl) ?_
  refine o_eql rfl rfl guard_none (look_tmp rfl) (look_int rfl) (fun _ => rfl) (fun _ => rfl) ?_
  refine o_end ?_
  refine den_cond (look_tmp rfl) ?_ ?_
  · refine den_seq ?_
    refine den_region rfl ?_
    refine o_build (R := T_api_Value_rep0) (f := T_api_Value_tup) (y := (⟨0, 0, [], []⟩ : T_api_Value)) shape39 rfl rfl rfl rfl guard_none (bld_zero (z_int rfl) (bld_zero (z_int rfl) (bld_zero (z_str rfl) (bld_zero (z_slice rfl) (bld_nil))))) ?_
    refine o_ostore type39 foc_self guard_none (look_tmp rfl) (fun _ => rfl) (look_tmp rfl) (fun _ => rfl) ?_
    refine o_assign rfl rfl guard_none look_bool (fun _ => rfl) ?_
    refine o_end ?_
    refine den_code_ret ?_
    refine dene_ret ?_
    exact dene_res (res2 rfl (rv_cell 0 type39 rfl rfl) (rv_tmp rfl))
  · refine den_skip ?_
    refine den_seq ?_
    refine den_seq ?_
    refine den_region rfl ?_
    refine o_move rfl rfl guard_none (look_tmp rfl) (fun _ => rfl) ?_
    exact o_none

theorem store_Store_Names_n0_ok  (entity_1 : Bytes) : FunOk Try.prog 27 [⟨.nilp, (), true⟩, ⟨Rep.str, entity_1, true⟩] (store_Store_Names_n0 entity_1) ((Rep.str).slice) := by
  refine fun_ok Try.func27 rfl Try.ntmps27 rfl (all_cons rfl (all_cons rfl all_nil)) (fun w0 ok0 => ?_)
  refine den_seq ?_
  refine den_region rfl ?_
  refine o_assign rfl rfl guard_none look_nil1 (fun _ => rfl) ?_
  refine o_end ?_
  refine den_seq ?_
  refine den_seq ?_
  refine den_region rfl ?_
  refine o_move rfl rfl guard_none (look_tmp rfl) (fun _ => rfl) ?_
  refine o_call rfl rfl rfl callable55 (looks_cons (look_tmp rfl) (fun _ => rfl) (looks_nil)) (store_Store_made_n0_ok) (fun z1 => ?_)
  refine o_not rfl rfl guard_none (look_tmp rfl) (fun _ => rfl) ?_
  refine o_end ?_
  refine den_cond (look_tmp rfl) ?_ ?_
  · refine den_seq ?_
    refine den_region rfl ?_
    refine o_assign rfl rfl guard_none look_nil1 (fun _ => rfl) ?_
    refine o_end ?_
    refine den_code_ret ?_
    refine dene_ret ?_
    refine dene_weak (sub_nild (R := Rep.str) (s := 4) rfl) ?_
    exact dene_res (res1 rfl (rv_tmp rfl))
  · refine den_skip ?_
    refine den_seq ?_
    refine den_region rfl ?_
    refine o_assign rfl rfl guard_none look_nil1 (fun _ => rfl) ?_
    refine o_end ?_
    refine den_seq ?_
    refine den_seq ?_
    refine den_region rfl ?_
    refine o_move rfl rfl guard_none (look_tmp rfl) (fun _ => rfl) ?_
    exact o_none

theorem store_Store_Count_n0_ok   : FunOk Try.prog 26 [⟨.nilp, (), true⟩] (store_Store_Count_n0) (Rep.int .i64) := by
  refine fun_ok Try.func26 rfl Try.ntmps26 rfl (all_cons rfl all_nil) (fun w0 ok0 => ?_)
  refine den_seq ?_
  refine den_region rfl ?_
  refine o_assign rfl rfl guard_none (look_int rfl) (fun _ => rfl) ?_
  refine o_end ?_
  refine den_seq ?_
  refine den_seq ?_
  refine den_region rfl ?_
  refine o_move rfl rfl guard_none (look_tmp rfl) (fun _ => rfl) ?_
  refine o_call rfl rfl rfl callable55 (looks_cons (look_tmp rfl) (fun _ => rfl) (looks_nil)) (store_Store_made_n0_ok) (fun z1 => ?_)
  refine o_not rfl rfl guard_none (look_tmp rfl) (fun _ => rfl) ?_
  refine o_end ?_
  refine den_cond (look_tmp rfl) ?_ ?_
  · refine den_seq ?_
    refine den_region rfl ?_
    refine o_assign rfl rfl guard_none (look_int rfl) (fun _ => rfl) ?_
    refine o_end ?_
    refine den_code_ret ?_
    refine dene_ret ?_
    exact dene_res (res1 rfl (rv_tmp rfl))
  · refine den_skip ?_
    refine den_seq ?_
    refine den_region rfl ?_
    refine o_move rfl rfl guard_none (look_tmp rfl) (fun _ => rfl) ?_
    exact o_none

set_option maxHeartbeats 1000000 in
theorem law05_step_n0_ok  (m_1 : T_ref05_State) (x_2 : T_law05_Op) : FunOk Try.prog 54 [⟨.nilp, (), true⟩, ⟨T_ref05_State_rep, m_1, true⟩, ⟨T_law05_Op_rep, x_2, true⟩] (law05_step_n0 m_1 x_2) (Rep.pair (T_ref05_State_rep) (Rep.bool)) := by
  refine fun_ok Try.func54 rfl Try.ntmps54 rfl (all_cons rfl (all_cons rfl (all_cons rfl all_nil))) (fun w0 ok0 => ?_)
  refine den_seq ?_
  refine den_region rfl ?_
  refine o_box rfl rfl (look_tmp rfl) rfl (fun z1 => ?_)
  refine o_box rfl rfl (look_tmp rfl) rfl (fun z2 => ?_)
  refine o_alloc zero27 rfl rfl (fun z3 => ?_)
  refine o_assign rfl rfl guard_none look_bool (fun _ => rfl) ?_
  refine o_end ?_
  refine den_seq ?_
  refine den_seq ?_
  refine den_region rfl ?_
  refine o_faddr field97_0 type3 (by decide) rfl rfl guard_none (look_tmp rfl) (fun _ => rfl) ?_
  refine o_oloadi 1 rfl type3 T_law05_Op_foc0 rfl guard_none (look_tmp rfl) (fun _ => rfl) ?_
  refine o_eql rfl rfl guard_none (look_tmp rfl) (look_int rfl) (fun _ => rfl) (fun _ => rfl) ?_
  refine o_end ?_
  refine den_cond (look_tmp rfl) ?_ ?_
  · refine den_seq ?_
    refine den_region rfl ?_
    refine o_oloadi 2 rfl type27 foc_self rfl guard_none (look_tmp rfl) (fun _ => rfl) ?_
    refine o_faddr field97_1 type9 (by decide) rfl rfl guard_none (look_tmp rfl) (fun _ => rfl) ?_
    refine o_oloadi 1 rfl type9 T_law05_Op_foc1 rfl guard_none (look_tmp rfl) (fun _ => rfl) ?_
    refine o_faddr field97_2 type9 (by decide) rfl rfl guard_none (look_tmp rfl) (fun _ => rfl) ?_
    refine o_oloadi 1 rfl type9 T_law05_Op_foc2 rfl guard_none (look_tmp rfl) (fun _ => rfl) ?_
    refine o_faddr field97_3 type39 (by decide) rfl rfl guard_none (look_tmp rfl) (fun _ => rfl) ?_
    refine o_oloadi 1 rfl type39 T_law05_Op_foc3 rfl guard_none (look_tmp rfl) (fun _ => rfl) ?_
    refine o_call rfl rfl rfl callable83 (looks_cons (look_tmp rfl) (fun _ => rfl) (looks_cons (look_tmp rfl) (fun _ => rfl) (looks_cons (look_tmp rfl) (fun _ => rfl) (looks_cons (look_tmp rfl) (fun _ => rfl) (looks_nil))))) (ref05_Set_ok _ _ _ _) (fun z4 => ?_)
    refine o_move rfl rfl guard_none (look_tmp rfl) (fun _ => rfl) ?_
    refine o_fst rfl rfl guard_none (look_tmp rfl) (fun _ => rfl) ?_
    refine o_snd rfl rfl guard_none (look_tmp rfl) (fun _ => rfl) ?_
    refine o_alloc zero27 rfl rfl (fun z5 => ?_)
    refine o_ostore type27 foc_self guard_none (look_tmp rfl) (fun _ => rfl) (look_tmp rfl) (fun _ => rfl) ?_
    refine o_assign rfl rfl guard_none (look_tmp rfl) (fun _ => rfl) ?_
    refine o_end ?_
    refine den_seq ?_
    refine den_open (fun z6 h_z6 => ?_)
    have hB : ∀ (S : Nat → Bool) (b11 : Bool), S 11 = b11 → ((fun S => [.obj true z5 0 (.dat T_ref05_State_rep) z4.1, .obj true z3 0 (.dat T_ref05_State_rep) (cond (S 11) z4.1 T_ref05_State_zero), .obj true z2 0 (.dat T_law05_Op_rep) x_2, .obj true z1 0 (.dat T_ref05_State_rep) m_1] : (Nat → Bool) → List Go.Eng.Item) S) = ([.obj true z5 0 (.dat T_ref05_State_rep) z4.1, .obj true z3 0 (.dat T_ref05_State_rep) (cond b11 z4.1 T_ref05_State_zero), .obj true z2 0 (.dat T_law05_Op_rep) x_2, .obj true z1 0 (.dat T_ref05_State_rep) m_1] : List Go.Eng.Item) := fun S b11 h11 => by subst h11; rfl
    refine den_drawH (H' := [.obj true z5 0 (.dat T_ref05_State_rep) z4.1, .obj true z3 0 (.dat T_ref05_State_rep) z4.1, .obj true z2 0 (.dat T_law05_Op_rep) x_2, .obj true z1 0 (.dat T_ref05_State_rep) m_1]) [(28, ⟨T_ref05_State_rep, z4.1, true⟩), (29, ⟨Rep.nilp, (), true⟩), (30, ⟨Rep.addr, (z2, 0 + 1), true⟩), (31, ⟨Rep.str, x_2.Entity, true⟩), (32, ⟨Rep.addr, (z2, 0 + 2), true⟩), (33, ⟨Rep.str, x_2.Name, true⟩), (34, ⟨Rep.addr, (z2, 0 + 3), true⟩), (35, ⟨T_api_Value_rep, x_2.V, true⟩), (36, ⟨Rep.int .i64, z6, true⟩), (37, ⟨Rep.int .i64, z4.2, true⟩), (38, ⟨Rep.bool, z6 == z4.2, true⟩), (113, ⟨.any, (), false⟩), (7, ⟨Rep.bool, z6 == z4.2, true⟩)] (fun S => [.obj true z5 0 (.dat T_ref05_State_rep) z4.1, .obj true z3 0 (.dat T_ref05_State_rep) (cond (S 11) z4.1 T_ref05_State_zero), .obj true z2 0 (.dat T_law05_Op_rep) x_2, .obj true z1 0 (.dat T_ref05_State_rep) m_1]) mixed rfl rfl rfl (fun S hS => hB S true (hS 11 (by decide))) ⟨?_, ?_, ?_, ?_, ?_, ?_, ?_, ?_, ?_, ?_, ?_, ?_, ?_, trivial⟩ ?_
    · intro S hc hk hp
      refine o_oloadi 0 rfl type27 foc_self rfl guard_none (look_o rfl rfl) (fun _ => rfl) ?_
      exact h_end rfl rfl rfl (hB (fun k => S k || Nat.beq k 0) (S 11) (or_ne rfl))
    · intro S hc hk hp
      refine o_move rfl rfl guard_none (look_o rfl rfl) (fun _ => rfl) ?_
      exact h_end rfl rfl rfl (hB (fun k => S k || Nat.beq k 1) (S 11) (or_ne rfl))
    · intro S hc hk hp
      refine o_faddr field97_1 type9 (by decide) rfl rfl guard_none (look_o rfl rfl) (fun _ => rfl) ?_
      exact h_end rfl rfl rfl (hB (fun k => S k || Nat.beq k 2) (S 11) (or_ne rfl))
    · intro S hc hk hp
      refine o_oloadi 2 rfl type9 T_law05_Op_foc1 rfl guard_none (look_d rfl rfl (pr hp 0 rfl rfl)) (fun _ => rfl) ?_
      exact h_end rfl rfl rfl (hB (fun k => S k || Nat.beq k 3) (S 11) (or_ne rfl))
    · intro S hc hk hp
      refine o_faddr field97_2 type9 (by decide) rfl rfl guard_none (look_o rfl rfl) (fun _ => rfl) ?_
      exact h_end rfl rfl rfl (hB (fun k => S k || Nat.beq k 4) (S 11) (or_ne rfl))
    · intro S hc hk hp
      refine o_oloadi 2 rfl type9 T_law05_Op_foc2 rfl guard_none (look_d rfl rfl (pr hp 0 rfl rfl)) (fun _ => rfl) ?_
      exact h_end rfl rfl rfl (hB (fun k => S k || Nat.beq k 5) (S 11) (or_ne rfl))
    · intro S hc hk hp
      refine o_faddr field97_3 type39 (by decide) rfl rfl guard_none (look_o rfl rfl) (fun _ => rfl) ?_
      exact h_end rfl rfl rfl (hB (fun k => S k || Nat.beq k 6) (S 11) (or_ne rfl))
    · intro S hc hk hp
      refine o_oloadi 2 rfl type39 T_law05_Op_foc3 rfl guard_none (look_d rfl rfl (pr hp 0 rfl rfl)) (fun _ => rfl) ?_
      exact h_end rfl rfl rfl (hB (fun k => S k || Nat.beq k 7) (S 11) (or_ne rfl))
    · intro S hc hk hp
      refine o_from (bind_eqO h_z6) ?_
      refine o_call rfl rfl rfl callable21 (looks_cons (look_d rfl rfl (pr hp 0 rfl rfl)) (fun _ => rfl) (looks_cons (look_d rfl rfl (pr hp 1 rfl rfl)) (fun _ => rfl) (looks_cons (look_d rfl rfl (pr hp 2 rfl rfl)) (fun _ => rfl) (looks_cons (look_d rfl rfl (pr hp 3 rfl rfl)) (fun _ => rfl) (looks_nil))))) (store_Store_Set_n0_ok _ _ _) (o_eqO ?_)
      exact h_end rfl rfl rfl (hB (fun k => S k || Nat.beq k 8) (S 11) (or_ne rfl))
    · intro S hc hk hp
      refine o_move rfl rfl guard_none (look_o rfl rfl) (fun _ => rfl) ?_
      exact h_end rfl rfl rfl (hB (fun k => S k || Nat.beq k 9) (S 11) (or_ne rfl))
    · intro S hc hk hp
      refine o_eql rfl rfl guard_none (look_d rfl rfl (pr hp 0 rfl rfl)) (look_d rfl rfl (pr hp 1 rfl rfl)) (fun _ => rfl) (fun _ => rfl) ?_
      exact h_end rfl rfl rfl (hB (fun k => S k || Nat.beq k 10) (S 11) (or_ne rfl))
    · intro S hc hk hp
      refine eq_H (H' := [.obj true z5 0 (.dat T_ref05_State_rep) z4.1, .obj true z3 0 (.dat T_ref05_State_rep) T_ref05_State_zero, .obj true z2 0 (.dat T_law05_Op_rep) x_2, .obj true z1 0 (.dat T_ref05_State_rep) m_1]) (hB S false hk) ?_
      refine o_weak (H' := [.obj true z3 0 (.dat T_ref05_State_rep) T_ref05_State_zero, .obj true z5 0 (.dat T_ref05_State_rep) z4.1, .obj true z2 0 (.dat T_law05_Op_rep) x_2, .obj true z1 0 (.dat T_ref05_State_rep) m_1]) (sub_pick [1, 0, 2, 3] rfl rfl) ?_
      refine o_ostore type27 foc_self guard_none (look_o rfl rfl) (fun _ => rfl) (look_d rfl rfl (pr hp 0 rfl rfl)) (fun _ => rfl) ?_
      refine o_weak (H' := [.obj true z5 0 (.dat T_ref05_State_rep) z4.1, .obj true z3 0 (.dat T_ref05_State_rep) z4.1, .obj true z2 0 (.dat T_law05_Op_rep) x_2, .obj true z1 0 (.dat T_ref05_State_rep) m_1]) (sub_pick [1, 0, 2, 3] rfl rfl) ?_
      refine h_none (n := 102) (d := 113) rfl rfl ?_
      exact h_end rfl rfl rfl (hB (fun k => S k || Nat.beq k 11) true (or_i rfl))
    · intro S hc hk hp
      refine o_assign rfl rfl guard_none (look_d rfl rfl (pr hp 0 rfl rfl)) (fun _ => rfl) ?_
      exact h_end rfl rfl rfl (hB (fun k => S k || Nat.beq k 12) (S 11) (or_ne rfl))
    refine den_code_ret ?_
    refine dene_ret ?_
    exact dene_res (res2 rfl (rv_cell 1 type27 rfl rfl) (rv_tmp rfl))
  · refine den_skip ?_
    refine den_seq ?_
    refine den_seq ?_
    refine den_region rfl ?_
    refine o_faddr field97_0 type3 (by decide) rfl rfl guard_none (look_tmp rfl) (fun _ => rfl) ?_
    refine o_oloadi 1 rfl type3 T_law05_Op_foc0 rfl guard_none (look_tmp rfl) (fun _ => rfl) ?_
    refine o_eql rfl rfl guard_none (look_tmp rfl) (look_int rfl) (fun _ => rfl) (fun _ => rfl) ?_
    refine o_end ?_
    refine den_cond (look_tmp rfl) ?_ ?_
    · refine den_seq ?_
      refine den_region rfl ?_
      refine o_move rfl rfl guard_none (look_tmp rfl) (fun _ => rfl) ?_
      refine o_faddr field97_1 type9 (by decide) rfl rfl guard_none (look_tmp rfl) (fun _ => rfl) ?_
      refine o_oloadi 1 rfl type9 T_law05_Op_foc1 rfl guard_none (look_tmp rfl) (fun _ => rfl) ?_
      refine o_faddr field97_2 type9 (by decide) rfl rfl guard_none (look_tmp rfl) (fun _ => rfl) ?_
      refine o_oloadi 1 rfl type9 T_law05_Op_foc2 rfl guard_none (look_tmp rfl) (fun _ => rfl) ?_
      refine o_call rfl rfl rfl callable23 (looks_cons (look_tmp rfl) (fun _ => rfl) (looks_cons (look_tmp rfl) (fun _ => rfl) (looks_cons (look_tmp rfl) (fun _ => rfl) (looks_nil)))) (store_Store_Get_n0_ok _ _) (fun z7 => ?_)
      refine o_move rfl rfl guard_none (look_tmp rfl) (fun _ => rfl) ?_
      refine o_fst rfl rfl guard_none (look_tmp rfl) (fun _ => rfl) ?_
      refine o_snd rfl rfl guard_none (look_tmp rfl) (fun _ => rfl) ?_
      refine o_alloc zero39 rfl rfl (fun z8 => ?_)
      refine o_ostore type39 foc_self guard_none (look_tmp rfl) (fun _ => rfl) (look_tmp rfl) (fun _ => rfl) ?_
      refine o_assign rfl rfl guard_none (look_tmp rfl) (fun _ => rfl) ?_
      refine o_end ?_
      refine den_seq ?_
      refine den_region rfl ?_
      refine o_oloadi 3 rfl type27 foc_self rfl guard_none (look_tmp rfl) (fun _ => rfl) ?_
      refine o_faddr field97_1 type9 (by decide) rfl rfl guard_none (look_tmp rfl) (fun _ => rfl) ?_
      refine o_oloadi 2 rfl type9 T_law05_Op_foc1 rfl guard_none (look_tmp rfl) (fun _ => rfl) ?_
      refine o_faddr field97_2 type9 (by decide) rfl rfl guard_none (look_tmp rfl) (fun _ => rfl) ?_
      refine o_oloadi 2 rfl type9 T_law05_Op_foc2 rfl guard_none (look_tmp rfl) (fun _ => rfl) ?_
      refine o_call rfl rfl rfl callable84 (looks_cons (look_tmp rfl) (fun _ => rfl) (looks_cons (look_tmp rfl) (fun _ => rfl) (looks_cons (look_tmp rfl) (fun _ => rfl) (looks_nil)))) (ref05_Get_ok _ _ _) (fun z9 => ?_)
      refine o_move rfl rfl guard_none (look_tmp rfl) (fun _ => rfl) ?_
      refine o_fst rfl rfl guard_none (look_tmp rfl) (fun _ => rfl) ?_
      refine o_snd rfl rfl guard_none (look_tmp rfl) (fun _ => rfl) ?_
      refine o_alloc zero39 rfl rfl (fun z10 => ?_)
      refine o_ostore type39 foc_self guard_none (look_tmp rfl) (fun _ => rfl) (look_tmp rfl) (fun _ => rfl) ?_
      refine o_assign rfl rfl guard_none (look_tmp rfl) (fun _ => rfl) ?_
      refine o_end ?_
      refine den_seq ?_
      refine den_open (fun z11 h_z11 => ?_)
      have hB : ∀ (S : Nat → Bool) (b9 : Bool), S 9 = b9 → ((fun S => [.obj true z10 0 (.dat T_api_Value_rep) z9.1, .obj true z8 0 (.dat T_api_Value_rep) z7.1, .obj true z3 0 (.dat T_ref05_State_rep) (cond (S 9) m_1 T_ref05_State_zero), .obj true z2 0 (.dat T_law05_Op_rep) x_2, .obj true z1 0 (.dat T_ref05_State_rep) m_1] : (Nat → Bool) → List Go.Eng.Item) S) = ([.obj true z10 0 (.dat T_api_Value_rep) z9.1, .obj true z8 0 (.dat T_api_Value_rep) z7.1, .obj true z3 0 (.dat T_ref05_State_rep) (cond b9 m_1 T_ref05_State_zero), .obj true z2 0 (.dat T_law05_Op_rep) x_2, .obj true z1 0 (.dat T_ref05_State_rep) m_1] : List Go.Eng.Item) := fun S b9 h9 => by subst h9; rfl
      refine den_drawH (H' := [.obj true z10 0 (.dat T_api_Value_rep) z9.1, .obj true z8 0 (.dat T_api_Value_rep) z7.1, .obj true z3 0 (.dat T_ref05_State_rep) m_1, .obj true z2 0 (.dat T_law05_Op_rep) x_2, .obj true z1 0 (.dat T_ref05_State_rep) m_1]) [(60, ⟨T_ref05_State_rep, m_1, true⟩), (61, ⟨Rep.bool, z7.2, true⟩), (62, ⟨Rep.bool, z9.2, true⟩), (63, ⟨Rep.bool, z7.2 == z9.2, true⟩), (64, ⟨Rep.bool, z7.2 == z9.2, true⟩), (65, ⟨T_api_Value_rep, z7.1, (true && ((z7.2 == z9.2) == true))⟩), (66, ⟨T_api_Value_rep, z9.1, (true && ((z7.2 == z9.2) == true))⟩), (67, ⟨Rep.bool, z11, (true && ((z7.2 == z9.2) == true))⟩), (68, ⟨Rep.bool, cond (z7.2 == z9.2) z11 false, true⟩), (111, ⟨.any, (), false⟩), (7, ⟨Rep.bool, cond (z7.2 == z9.2) z11 false, true⟩)] (fun S => [.obj true z10 0 (.dat T_api_Value_rep) z9.1, .obj true z8 0 (.dat T_api_Value_rep) z7.1, .obj true z3 0 (.dat T_ref05_State_rep) (cond (S 9) m_1 T_ref05_State_zero), .obj true z2 0 (.dat T_law05_Op_rep) x_2, .obj true z1 0 (.dat T_ref05_State_rep) m_1]) mixed rfl rfl rfl (fun S hS => hB S true (hS 9 (by decide))) ⟨?_, ?_, ?_, ?_, ?_, ?_, ?_, ?_, ?_, ?_, ?_, trivial⟩ ?_
      · intro S hc hk hp
        refine o_oloadi 4 rfl type27 foc_self rfl guard_none (look_o rfl rfl) (fun _ => rfl) ?_
        exact h_end rfl rfl rfl (hB (fun k => S k || Nat.beq k 0) (S 9) (or_ne rfl))
      · intro S hc hk hp
        refine o_move rfl rfl guard_none (look_o rfl rfl) (fun _ => rfl) ?_
        exact h_end rfl rfl rfl (hB (fun k => S k || Nat.beq k 1) (S 9) (or_ne rfl))
      · intro S hc hk hp
        refine o_move rfl rfl guard_none (look_o rfl rfl) (fun _ => rfl) ?_
        exact h_end rfl rfl rfl (hB (fun k => S k || Nat.beq k 2) (S 9) (or_ne rfl))
      · intro S hc hk hp
        refine o_beql Try.underlying4 rfl rfl guard_none (look_d rfl rfl (pr hp 0 rfl rfl)) (look_d rfl rfl (pr hp 1 rfl rfl)) (fun _ => rfl) (fun _ => rfl) ?_
        exact h_end rfl rfl rfl (hB (fun k => S k || Nat.beq k 3) (S 9) (or_ne rfl))
      · intro S hc hk hp
        refine o_move rfl rfl guard_none (look_d rfl rfl (pr hp 0 rfl rfl)) (fun _ => rfl) ?_
        exact h_end rfl rfl rfl (hB (fun k => S k || Nat.beq k 4) (S 9) (or_ne rfl))
      · intro S hc hk hp
        refine o_oloadi 1 rfl type39 foc_self rfl (guard_d rfl rfl rfl rfl (pr hp 0 rfl rfl)) (look_o rfl rfl) (fun _ => rfl) ?_
        exact h_end rfl rfl rfl (hB (fun k => S k || Nat.beq k 5) (S 9) (or_ne rfl))
      · intro S hc hk hp
        refine o_oloadi 0 rfl type39 foc_self rfl (guard_d rfl rfl rfl rfl (pr hp 0 rfl rfl)) (look_o rfl rfl) (fun _ => rfl) ?_
        exact h_end rfl rfl rfl (hB (fun k => S k || Nat.beq k 6) (S 9) (or_ne rfl))
      · intro S hc hk hp
        refine o_from (bind_eqO h_z11) ?_
        refine o_callg rfl rfl rfl (guard_d rfl rfl rfl rfl (pr hp 2 rfl rfl)) callable25 (looks_cons (look_d rfl rfl (pr hp 0 rfl rfl)) (fun h => h) (looks_cons (look_d rfl rfl (pr hp 1 rfl rfl)) (fun h => h) (looks_nil))) (plain_Value_ok _ _) (o_eqO ?_)
        exact h_end rfl rfl rfl (hB (fun k => S k || Nat.beq k 7) (S 9) (or_ne rfl))
      · intro S hc hk hp
        refine o_pick rfl rfl guard_none (look_d rfl rfl (pr hp 0 rfl rfl)) (look_d rfl rfl (pr hp 1 rfl rfl)) look_bool (fun _ => rfl) (fun h1 h2 => pick_t ((fun _ => rfl) h1) h2) (fun _ _ => rfl) ?_
        exact h_end rfl rfl rfl (hB (fun k => S k || Nat.beq k 8) (S 9) (or_ne rfl))
      · intro S hc hk hp
        refine eq_H (H' := [.obj true z10 0 (.dat T_api_Value_rep) z9.1, .obj true z8 0 (.dat T_api_Value_rep) z7.1, .obj true z3 0 (.dat T_ref05_State_rep) T_ref05_State_zero, .obj true z2 0 (.dat T_law05_Op_rep) x_2, .obj true z1 0 (.dat T_ref05_State_rep) m_1]) (hB S false hk) ?_
        refine o_weak (H' := [.obj true z3 0 (.dat T_ref05_State_rep) T_ref05_State_zero, .obj true z10 0 (.dat T_api_Value_rep) z9.1, .obj true z8 0 (.dat T_api_Value_rep) z7.1, .obj true z2 0 (.dat T_law05_Op_rep) x_2, .obj true z1 0 (.dat T_ref05_State_rep) m_1]) (sub_pick [2, 0, 1, 3, 4] rfl rfl) ?_
        refine o_ostore type27 foc_self guard_none (look_o rfl rfl) (fun _ => rfl) (look_d rfl rfl (pr hp 0 rfl rfl)) (fun _ => rfl) ?_
        refine o_weak (H' := [.obj true z10 0 (.dat T_api_Value_rep) z9.1, .obj true z8 0 (.dat T_api_Value_rep) z7.1, .obj true z3 0 (.dat T_ref05_State_rep) m_1, .obj true z2 0 (.dat T_law05_Op_rep) x_2, .obj true z1 0 (.dat T_ref05_State_rep) m_1]) (sub_pick [1, 2, 0, 3, 4] rfl rfl) ?_
        refine h_none (n := 102) (d := 111) rfl rfl ?_
        exact h_end rfl rfl rfl (hB (fun k => S k || Nat.beq k 9) true (or_i rfl))
      · intro S hc hk hp
        refine o_assign rfl rfl guard_none (look_d rfl rfl (pr hp 0 rfl rfl)) (fun _ => rfl) ?_
        exact h_end rfl rfl rfl (hB (fun k => S k || Nat.beq k 10) (S 9) (or_ne rfl))
      refine den_code_ret ?_
      refine dene_ret ?_
      exact dene_res (res2 rfl (rv_cell 2 type27 rfl rfl) (rv_tmp rfl))
    · refine den_skip ?_
      refine den_seq ?_
      refine den_seq ?_
      refine den_region rfl ?_
      refine o_faddr field97_0 type3 (by decide) rfl rfl guard_none (look_tmp rfl) (fun _ => rfl) ?_
      refine o_oloadi 1 rfl type3 T_law05_Op_foc0 rfl guard_none (look_tmp rfl) (fun _ => rfl) ?_
      refine o_eql rfl rfl guard_none (look_tmp rfl) (look_int rfl) (fun _ => rfl) (fun _ => rfl) ?_
      refine o_end ?_
      refine den_cond (look_tmp rfl) ?_ ?_
      · refine den_seq ?_
        refine den_open (fun z12 h_z12 => ?_)
        refine den_open (fun z13 h_z13 => ?_)
        have hB : ∀ (S : Nat → Bool) (b10 : Bool), S 10 = b10 → ((fun S => [.obj true z3 0 (.dat T_ref05_State_rep) (cond (S 10) m_1 T_ref05_State_zero), .obj true z2 0 (.dat T_law05_Op_rep) x_2, .obj true z1 0 (.dat T_ref05_State_rep) m_1] : (Nat → Bool) → List Go.Eng.Item) S) = ([.obj true z3 0 (.dat T_ref05_State_rep) (cond b10 m_1 T_ref05_State_zero), .obj true z2 0 (.dat T_law05_Op_rep) x_2, .obj true z1 0 (.dat T_ref05_State_rep) m_1] : List Go.Eng.Item) := fun S b10 h10 => by subst h10; rfl
        refine den_drawH (H' := [.obj true z3 0 (.dat T_ref05_State_rep) m_1, .obj true z2 0 (.dat T_law05_Op_rep) x_2, .obj true z1 0 (.dat T_ref05_State_rep) m_1]) [(72, ⟨T_ref05_State_rep, m_1, true⟩), (73, ⟨Rep.nilp, (), true⟩), (74, ⟨Rep.addr, (z2, 0 + 2), true⟩), (75, ⟨Rep.str, x_2.Name, true⟩), (76, ⟨Rep.int .i64, z12, true⟩), (77, ⟨T_ref05_State_rep, m_1, true⟩), (78, ⟨Rep.addr, (z2, 0 + 2), true⟩), (79, ⟨Rep.str, x_2.Name, true⟩), (80, ⟨Rep.int .i64, z13, true⟩), (81, ⟨Rep.bool, z12 == z13, true⟩), (112, ⟨.any, (), false⟩), (7, ⟨Rep.bool, z12 == z13, true⟩)] (fun S => [.obj true z3 0 (.dat T_ref05_State_rep) (cond (S 10) m_1 T_ref05_State_zero), .obj true z2 0 (.dat T_law05_Op_rep) x_2, .obj true z1 0 (.dat T_ref05_State_rep) m_1]) mixed rfl rfl rfl (fun S hS => hB S true (hS 10 (by decide))) ⟨?_, ?_, ?_, ?_, ?_, ?_, ?_, ?_, ?_, ?_, ?_, ?_, trivial⟩ ?_
        · intro S hc hk hp
          refine o_oloadi 2 rfl type27 foc_self rfl guard_none (look_o rfl rfl) (fun _ => rfl) ?_
          exact h_end rfl rfl rfl (hB (fun k => S k || Nat.beq k 0) (S 10) (or_ne rfl))
        · intro S hc hk hp
          refine o_move rfl rfl guard_none (look_o rfl rfl) (fun _ => rfl) ?_
          exact h_end rfl rfl rfl (hB (fun k => S k || Nat.beq k 1) (S 10) (or_ne rfl))
        · intro S hc hk hp
          refine o_faddr field97_2 type9 (by decide) rfl rfl guard_none (look_o rfl rfl) (fun _ => rfl) ?_
          exact h_end rfl rfl rfl (hB (fun k => S k || Nat.beq k 2) (S 10) (or_ne rfl))
        · intro S hc hk hp
          refine o_oloadi 1 rfl type9 T_law05_Op_foc2 rfl guard_none (look_d rfl rfl (pr hp 0 rfl rfl)) (fun _ => rfl) ?_
          exact h_end rfl rfl rfl (hB (fun k => S k || Nat.beq k 3) (S 10) (or_ne rfl))
        · intro S hc hk hp
          refine o_from (bind_eqO h_z12) ?_
          refine o_call rfl rfl rfl callable28 (looks_cons (look_d rfl rfl (pr hp 0 rfl rfl)) (fun _ => rfl) (looks_cons (look_d rfl rfl (pr hp 1 rfl rfl)) (fun _ => rfl) (looks_nil))) (store_Store_Kind_n0_ok _) (o_eqO ?_)
          exact h_end rfl rfl rfl (hB (fun k => S k || Nat.beq k 4) (S 10) (or_ne rfl))
        · intro S hc hk hp
          refine o_oloadi 2 rfl type27 foc_self rfl guard_none (look_o rfl rfl) (fun _ => rfl) ?_
          exact h_end rfl rfl rfl (hB (fun k => S k || Nat.beq k 5) (S 10) (or_ne rfl))
        · intro S hc hk hp
          refine o_faddr field97_2 type9 (by decide) rfl rfl guard_none (look_o rfl rfl) (fun _ => rfl) ?_
          exact h_end rfl rfl rfl (hB (fun k => S k || Nat.beq k 6) (S 10) (or_ne rfl))
        · intro S hc hk hp
          refine o_oloadi 1 rfl type9 T_law05_Op_foc2 rfl guard_none (look_d rfl rfl (pr hp 0 rfl rfl)) (fun _ => rfl) ?_
          exact h_end rfl rfl rfl (hB (fun k => S k || Nat.beq k 7) (S 10) (or_ne rfl))
        · intro S hc hk hp
          refine o_from (bind_eqO h_z13) ?_
          refine o_call rfl rfl rfl callable85 (looks_cons (look_d rfl rfl (pr hp 0 rfl rfl)) (fun _ => rfl) (looks_cons (look_d rfl rfl (pr hp 1 rfl rfl)) (fun _ => rfl) (looks_nil))) (ref05_Kind_ok _ _) (o_eqO ?_)
          exact h_end rfl rfl rfl (hB (fun k => S k || Nat.beq k 8) (S 10) (or_ne rfl))
        · intro S hc hk hp
          refine o_eql rfl rfl guard_none (look_d rfl rfl (pr hp 0 rfl rfl)) (look_d rfl rfl (pr hp 1 rfl rfl)) (fun _ => rfl) (fun _ => rfl) ?_
          exact h_end rfl rfl rfl (hB (fun k => S k || Nat.beq k 9) (S 10) (or_ne rfl))
        · intro S hc hk hp
          refine eq_H (H' := [.obj true z3 0 (.dat T_ref05_State_rep) T_ref05_State_zero, .obj true z2 0 (.dat T_law05_Op_rep) x_2, .obj true z1 0 (.dat T_ref05_State_rep) m_1]) (hB S false hk) ?_
          refine o_ostore type27 foc_self guard_none (look_o rfl rfl) (fun _ => rfl) (look_d rfl rfl (pr hp 0 rfl rfl)) (fun _ => rfl) ?_
          refine o_weak (H' := [.obj true z3 0 (.dat T_ref05_State_rep) m_1, .obj true z2 0 (.dat T_law05_Op_rep) x_2, .obj true z1 0 (.dat T_ref05_State_rep) m_1]) (sub_pick [0, 1, 2] rfl rfl) ?_
          refine h_none (n := 102) (d := 112) rfl rfl ?_
          exact h_end rfl rfl rfl (hB (fun k => S k || Nat.beq k 10) true (or_i rfl))
        · intro S hc hk hp
          refine o_assign rfl rfl guard_none (look_d rfl rfl (pr hp 0 rfl rfl)) (fun _ => rfl) ?_
          exact h_end rfl rfl rfl (hB (fun k => S k || Nat.beq k 11) (S 10) (or_ne rfl))
        refine den_code_ret ?_
        refine dene_ret ?_
        exact dene_res (res2 rfl (rv_cell 0 type27 rfl rfl) (rv_tmp rfl))
      · refine den_skip ?_
        refine den_seq ?_
        refine den_seq ?_
        refine den_region rfl ?_
        refine o_faddr field97_0 type3 (by decide) rfl rfl guard_none (look_tmp rfl) (fun _ => rfl) ?_
        refine o_oloadi 1 rfl type3 T_law05_Op_foc0 rfl guard_none (look_tmp rfl) (fun _ => rfl) ?_
        refine o_eql rfl rfl guard_none (look_tmp rfl) (look_int rfl) (fun _ => rfl) (fun _ => rfl) ?_
        refine o_end ?_
        refine den_cond (look_tmp rfl) ?_ ?_
        · refine den_seq ?_
          refine den_open (fun z14 h_z14 => ?_)
          refine den_open (fun z15 h_z15 => ?_)
          refine den_open (fun z16 h_z16 => ?_)
          have hB : ∀ (S : Nat → Bool) (b10 : Bool), S 10 = b10 → ((fun S => [.obj true z3 0 (.dat T_ref05_State_rep) (cond (S 10) m_1 T_ref05_State_zero), .obj true z2 0 (.dat T_law05_Op_rep) x_2, .obj true z1 0 (.dat T_ref05_State_rep) m_1] : (Nat → Bool) → List Go.Eng.Item) S) = ([.obj true z3 0 (.dat T_ref05_State_rep) (cond b10 m_1 T_ref05_State_zero), .obj true z2 0 (.dat T_law05_Op_rep) x_2, .obj true z1 0 (.dat T_ref05_State_rep) m_1] : List Go.Eng.Item) := fun S b10 h10 => by subst h10; rfl
          refine den_drawH (H' := [.obj true z3 0 (.dat T_ref05_State_rep) m_1, .obj true z2 0 (.dat T_law05_Op_rep) x_2, .obj true z1 0 (.dat T_ref05_State_rep) m_1]) [(85, ⟨T_ref05_State_rep, m_1, true⟩), (86, ⟨Rep.nilp, (), true⟩), (87, ⟨Rep.addr, (z2, 0 + 1), true⟩), (88, ⟨Rep.str, x_2.Entity, true⟩), (89, ⟨(Rep.str).slice, z14, true⟩), (90, ⟨T_ref05_State_rep, m_1, true⟩), (91, ⟨Rep.addr, (z2, 0 + 1), true⟩), (92, ⟨Rep.str, x_2.Entity, true⟩), (93, ⟨(Rep.str).slice, z15, true⟩), (94, ⟨Rep.bool, z16, true⟩), (112, ⟨.any, (), false⟩), (7, ⟨Rep.bool, z16, true⟩)] (fun S => [.obj true z3 0 (.dat T_ref05_State_rep) (cond (S 10) m_1 T_ref05_State_zero), .obj true z2 0 (.dat T_law05_Op_rep) x_2, .obj true z1 0 (.dat T_ref05_State_rep) m_1]) mixed rfl rfl rfl (fun S hS => hB S true (hS 10 (by decide))) ⟨?_, ?_, ?_, ?_, ?_, ?_, ?_, ?_, ?_, ?_, ?_, ?_, trivial⟩ ?_
          · intro S hc hk hp
            refine o_oloadi 2 rfl type27 foc_self rfl guard_none (look_o rfl rfl) (fun _ => rfl) ?_
            exact h_end rfl rfl rfl (hB (fun k => S k || Nat.beq k 0) (S 10) (or_ne rfl))
          · intro S hc hk hp
            refine o_move rfl rfl guard_none (look_o rfl rfl) (fun _ => rfl) ?_
            exact h_end rfl rfl rfl (hB (fun k => S k || Nat.beq k 1) (S 10) (or_ne rfl))
          · intro S hc hk hp
            refine o_faddr field97_1 type9 (by decide) rfl rfl guard_none (look_o rfl rfl) (fun _ => rfl) ?_
            exact h_end rfl rfl rfl (hB (fun k => S k || Nat.beq k 2) (S 10) (or_ne rfl))
          · intro S hc hk hp
            refine o_oloadi 1 rfl type9 T_law05_Op_foc1 rfl guard_none (look_d rfl rfl (pr hp 0 rfl rfl)) (fun _ => rfl) ?_
            exact h_end rfl rfl rfl (hB (fun k => S k || Nat.beq k 3) (S 10) (or_ne rfl))
          · intro S hc hk hp
            refine o_from (bind_eqO h_z14) ?_
            refine o_call rfl rfl rfl callable27 (looks_cons (look_d rfl rfl (pr hp 0 rfl rfl)) (fun _ => rfl) (looks_cons (look_d rfl rfl (pr hp 1 rfl rfl)) (fun _ => rfl) (looks_nil))) (store_Store_Names_n0_ok _) (o_eqO ?_)
            exact h_end rfl rfl rfl (hB (fun k => S k || Nat.beq k 4) (S 10) (or_ne rfl))
          · intro S hc hk hp
            refine o_oloadi 2 rfl type27 foc_self rfl guard_none (look_o rfl rfl) (fun _ => rfl) ?_
            exact h_end rfl rfl rfl (hB (fun k => S k || Nat.beq k 5) (S 10) (or_ne rfl))
          · intro S hc hk hp
            refine o_faddr field97_1 type9 (by decide) rfl rfl guard_none (look_o rfl rfl) (fun _ => rfl) ?_
            exact h_end rfl rfl rfl (hB (fun k => S k || Nat.beq k 6) (S 10) (or_ne rfl))
          · intro S hc hk hp
            refine o_oloadi 1 rfl type9 T_law05_Op_foc1 rfl guard_none (look_d rfl rfl (pr hp 0 rfl rfl)) (fun _ => rfl) ?_
            exact h_end rfl rfl rfl (hB (fun k => S k || Nat.beq k 7) (S 10) (or_ne rfl))
          · intro S hc hk hp
            refine o_from (bind_eqO h_z15) ?_
            refine o_call rfl rfl rfl callable86 (looks_cons (look_d rfl rfl (pr hp 0 rfl rfl)) (fun _ => rfl) (looks_cons (look_d rfl rfl (pr hp 1 rfl rfl)) (fun _ => rfl) (looks_nil))) (law05_names_ok _ _) (o_eqO ?_)
            exact h_end rfl rfl rfl (hB (fun k => S k || Nat.beq k 8) (S 10) (or_ne rfl))
          · intro S hc hk hp
            refine o_from (bind_eqO h_z16) ?_
            refine o_call rfl rfl rfl callable24 (looks_cons (look_d rfl rfl (pr hp 0 rfl rfl)) (fun _ => rfl) (looks_cons (look_d rfl rfl (pr hp 1 rfl rfl)) (fun _ => rfl) (looks_nil))) (plain_Texts_ok _ _) (o_eqO ?_)
            exact h_end rfl rfl rfl (hB (fun k => S k || Nat.beq k 9) (S 10) (or_ne rfl))
          · intro S hc hk hp
            refine eq_H (H' := [.obj true z3 0 (.dat T_ref05_State_rep) T_ref05_State_zero, .obj true z2 0 (.dat T_law05_Op_rep) x_2, .obj true z1 0 (.dat T_ref05_State_rep) m_1]) (hB S false hk) ?_
            refine o_ostore type27 foc_self guard_none (look_o rfl rfl) (fun _ => rfl) (look_d rfl rfl (pr hp 0 rfl rfl)) (fun _ => rfl) ?_
            refine o_weak (H' := [.obj true z3 0 (.dat T_ref05_State_rep) m_1, .obj true z2 0 (.dat T_law05_Op_rep) x_2, .obj true z1 0 (.dat T_ref05_State_rep) m_1]) (sub_pick [0, 1, 2] rfl rfl) ?_
            refine h_none (n := 102) (d := 112) rfl rfl ?_
            exact h_end rfl rfl rfl (hB (fun k => S k || Nat.beq k 10) true (or_i rfl))
          · intro S hc hk hp
            refine o_assign rfl rfl guard_none (look_d rfl rfl (pr hp 0 rfl rfl)) (fun _ => rfl) ?_
            exact h_end rfl rfl rfl (hB (fun k => S k || Nat.beq k 11) (S 10) (or_ne rfl))
          refine den_code_ret ?_
          refine dene_ret ?_
          exact dene_res (res2 rfl (rv_cell 0 type27 rfl rfl) (rv_tmp rfl))
        · refine den_skip ?_
          refine den_seq ?_
          refine den_open (fun z17 h_z17 => ?_)
          have hB : ∀ (S : Nat → Bool) (b7 : Bool), S 7 = b7 → ((fun S => [.obj true z3 0 (.dat T_ref05_State_rep) (cond (S 7) m_1 T_ref05_State_zero), .obj true z2 0 (.dat T_law05_Op_rep) x_2, .obj true z1 0 (.dat T_ref05_State_rep) m_1] : (Nat → Bool) → List Go.Eng.Item) S) = ([.obj true z3 0 (.dat T_ref05_State_rep) (cond b7 m_1 T_ref05_State_zero), .obj true z2 0 (.dat T_law05_Op_rep) x_2, .obj true z1 0 (.dat T_ref05_State_rep) m_1] : List Go.Eng.Item) := fun S b7 h7 => by subst h7; rfl
          refine den_drawH (H' := [.obj true z3 0 (.dat T_ref05_State_rep) m_1, .obj true z2 0 (.dat T_law05_Op_rep) x_2, .obj true z1 0 (.dat T_ref05_State_rep) m_1]) [(95, ⟨T_ref05_State_rep, m_1, true⟩), (96, ⟨Rep.nilp, (), true⟩), (97, ⟨Rep.int .i64, z17, true⟩), (98, ⟨Rep.addr, (z1, 0 + 1), true⟩), (99, ⟨(T_ref05_Cell_rep).slice, m_1.Cells, true⟩), (100, ⟨Rep.int .i64, (m_1.Cells.length : Int), true⟩), (101, ⟨Rep.bool, z17 == (m_1.Cells.length : Int), true⟩), (109, ⟨.any, (), false⟩), (7, ⟨Rep.bool, z17 == (m_1.Cells.length : Int), true⟩)] (fun S => [.obj true z3 0 (.dat T_ref05_State_rep) (cond (S 7) m_1 T_ref05_State_zero), .obj true z2 0 (.dat T_law05_Op_rep) x_2, .obj true z1 0 (.dat T_ref05_State_rep) m_1]) mixed rfl rfl rfl (fun S hS => hB S true (hS 7 (by decide))) ⟨?_, ?_, ?_, ?_, ?_, ?_, ?_, ?_, ?_, trivial⟩ ?_
          · intro S hc hk hp
            refine o_oloadi 2 rfl type27 foc_self rfl guard_none (look_o rfl rfl) (fun _ => rfl) ?_
            exact h_end rfl rfl rfl (hB (fun k => S k || Nat.beq k 0) (S 7) (or_ne rfl))
          · intro S hc hk hp
            refine o_move rfl rfl guard_none (look_o rfl rfl) (fun _ => rfl) ?_
            exact h_end rfl rfl rfl (hB (fun k => S k || Nat.beq k 1) (S 7) (or_ne rfl))
          · intro S hc hk hp
            refine o_from (bind_eqO h_z17) ?_
            refine o_call rfl rfl rfl callable26 (looks_cons (look_d rfl rfl (pr hp 0 rfl rfl)) (fun _ => rfl) (looks_nil)) (store_Store_Count_n0_ok) (o_eqO ?_)
            exact h_end rfl rfl rfl (hB (fun k => S k || Nat.beq k 2) (S 7) (or_ne rfl))
          · intro S hc hk hp
            refine o_faddr field27_1 type25 (by decide) rfl rfl guard_none (look_o rfl rfl) (fun _ => rfl) ?_
            exact h_end rfl rfl rfl (hB (fun k => S k || Nat.beq k 3) (S 7) (or_ne rfl))
          · intro S hc hk hp
            refine o_oloadi 2 rfl type25 T_ref05_State_foc1 rfl guard_none (look_d rfl rfl (pr hp 0 rfl rfl)) (fun _ => rfl) ?_
            exact h_end rfl rfl rfl (hB (fun k => S k || Nat.beq k 4) (S 7) (or_ne rfl))
          · intro S hc hk hp
            refine o_llen Try.underlying25 rfl rfl guard_none (look_d rfl rfl (pr hp 0 rfl rfl)) (fun _ => rfl) ?_
            exact h_end rfl rfl rfl (hB (fun k => S k || Nat.beq k 5) (S 7) (or_ne rfl))
          · intro S hc hk hp
            refine o_eql rfl rfl guard_none (look_d rfl rfl (pr hp 0 rfl rfl)) (look_d rfl rfl (pr hp 1 rfl rfl)) (fun _ => rfl) (fun _ => rfl) ?_
            exact h_end rfl rfl rfl (hB (fun k => S k || Nat.beq k 6) (S 7) (or_ne rfl))
          · intro S hc hk hp
            refine eq_H (H' := [.obj true z3 0 (.dat T_ref05_State_rep) T_ref05_State_zero, .obj true z2 0 (.dat T_law05_Op_rep) x_2, .obj true z1 0 (.dat T_ref05_State_rep) m_1]) (hB S false hk) ?_
            refine o_ostore type27 foc_self guard_none (look_o rfl rfl) (fun _ => rfl) (look_d rfl rfl (pr hp 0 rfl rfl)) (fun _ => rfl) ?_
            refine o_weak (H' := [.obj true z3 0 (.dat T_ref05_State_rep) m_1, .obj true z2 0 (.dat T_law05_Op_rep) x_2, .obj true z1 0 (.dat T_ref05_State_rep) m_1]) (sub_pick [0, 1, 2] rfl rfl) ?_
            refine h_none (n := 102) (d := 109) rfl rfl ?_
            exact h_end rfl rfl rfl (hB (fun k => S k || Nat.beq k 7) true (or_i rfl))
          · intro S hc hk hp
            refine o_assign rfl rfl guard_none (look_d rfl rfl (pr hp 0 rfl rfl)) (fun _ => rfl) ?_
            exact h_end rfl rfl rfl (hB (fun k => S k || Nat.beq k 8) (S 7) (or_ne rfl))
          refine den_code_ret ?_
          exact dene_res (res2 rfl (rv_cell 0 type27 rfl rfl) (rv_tmp rfl))

theorem law05_run_n0_ok  (m_1 : T_ref05_State) (l_2 : (List T_law05_Op)) : FunOk Try.prog 16 [⟨.nilp, (), true⟩, ⟨T_ref05_State_rep, m_1, true⟩, ⟨(T_law05_Op_rep).slice, l_2, true⟩] (law05_run_n0 m_1 l_2) (Rep.pair (T_ref05_State_rep) (Rep.bool)) := by
  refine fun_ok Try.func16 rfl Try.ntmps16 rfl (all_cons rfl (all_cons rfl (all_cons rfl all_nil))) (fun w0 ok0 => ?_)
  refine den_seq ?_
  refine den_region rfl ?_
  refine o_box rfl rfl (look_tmp rfl) rfl (fun z1 => ?_)
  refine o_alloc zero27 rfl rfl (fun z2 => ?_)
  refine o_assign rfl rfl guard_none look_bool (fun _ => rfl) ?_
  refine o_end ?_
  refine den_seq ?_
  refine den_region rfl ?_
  refine o_assign rfl rfl guard_none look_bool (fun _ => rfl) ?_
  refine o_end ?_
  refine den_seq ?_
  refine den_seq ?_
  refine den_region rfl ?_
  refine o_assign rfl rfl guard_none (look_int rfl) (fun _ => rfl) ?_
  refine o_end ?_
  refine den_bind (fun z3 => [(8, ⟨Rep.bool, z3.1, true⟩), (4, ⟨Rep.addr, (z1, 0), true⟩), (6, ⟨Rep.addr, (z2, 0), true⟩)]) (fun z3 => [.obj true z2 0 (.dat T_ref05_State_rep) T_ref05_State_zero, .obj true z1 0 (.dat T_ref05_State_rep) z3.2]) ?_ (fun z3 => ?_)
  · refine den_block ?_
    refine den_loop (law05_run_n0_L1b l_2) (fun z4 => [(8, ⟨Rep.bool, z4.1, true⟩), (9, ⟨Rep.int .i64, z4.2.1, true⟩), (0, ⟨Rep.nilp, (), true⟩), (2, ⟨(T_law05_Op_rep).slice, l_2, true⟩), (4, ⟨Rep.addr, (z1, 0), true⟩), (6, ⟨Rep.addr, (z2, 0), true⟩)]) (fun z4 => [.obj true z2 0 (.dat T_ref05_State_rep) T_ref05_State_zero, .obj true z1 0 (.dat T_ref05_State_rep) z4.2.2]) (true, 0, m_1) (fun z4 => ?_) ((sub_env (sube_cons rfl (sube_cons rfl (sube_cons rfl (sube_cons rfl (sube_cons rfl (sube_cons rfl (sube_nil)))))))))
    refine den_seq ?_
    refine den_seq ?_
    refine den_region rfl ?_
    refine o_move rfl rfl guard_none (look_tmp rfl) (fun _ => rfl) ?_
    refine o_move rfl rfl guard_none (look_tmp rfl) (fun _ => rfl) ?_
    refine o_llen Try.underlying23 rfl rfl guard_none (look_tmp rfl) (fun _ => rfl) ?_
    refine o_lss rfl rfl guard_none (look_tmp rfl) (look_tmp rfl) (fun _ => rfl) (fun _ => rfl) ?_
    refine o_move rfl rfl guard_none (look_tmp rfl) (fun _ => rfl) ?_
    refine o_move rfl rfl (guard_some rfl rfl rfl) (look_tmp rfl) (fun _ => rfl) ?_
    refine o_pick rfl rfl guard_none (look_tmp rfl) (look_tmp rfl) look_bool (fun _ => rfl) (fun h1 h2 => pick_t ((fun _ => rfl) h1) h2) (fun _ _ => rfl) ?_
    refine o_end ?_
    refine den_cond (look_tmp rfl) ?_ ?_
    · refine den_skip ?_
      refine den_seq ?_
      refine den_block ?_
      refine den_open (fun z5 h_z5 => ?_)
      refine den_open (fun z6 h_z6 => ?_)
      have hB : ∀ (S : Nat → Bool) (b10 : Bool), S 10 = b10 → ((fun S => [.obj true z2 0 (.dat T_ref05_State_rep) T_ref05_State_zero, .obj true z1 0 (.dat T_ref05_State_rep) (cond (S 10) z6.1 z4.2.2)] : (Nat → Bool) → List Go.Eng.Item) S) = ([.obj true z2 0 (.dat T_ref05_State_rep) T_ref05_State_zero, .obj true z1 0 (.dat T_ref05_State_rep) (cond b10 z6.1 z4.2.2)] : List Go.Eng.Item) := fun S b10 h10 => by subst h10; rfl
      refine den_drawH (H' := [.obj true z2 0 (.dat T_ref05_State_rep) T_ref05_State_zero, .obj true z1 0 (.dat T_ref05_State_rep) z6.1]) [(20, ⟨Rep.nilp, (), true⟩), (21, ⟨T_ref05_State_rep, z4.2.2, true⟩), (22, ⟨(T_law05_Op_rep).slice, l_2, true⟩), (23, ⟨Rep.int .i64, z4.2.1, true⟩), (24, ⟨(T_law05_Op_rep).ptrTo, z5, true⟩), (25, ⟨T_law05_Op_rep, z5, true⟩), (26, ⟨Rep.pair (T_ref05_State_rep) (Rep.bool), z6, true⟩), (19, ⟨Rep.pair (T_ref05_State_rep) (Rep.bool), z6, true⟩), (27, ⟨T_ref05_State_rep, z6.1, true⟩), (28, ⟨Rep.bool, z6.2, true⟩), (41, ⟨.any, (), false⟩), (8, ⟨Rep.bool, z6.2, true⟩)] (fun S => [.obj true z2 0 (.dat T_ref05_State_rep) T_ref05_State_zero, .obj true z1 0 (.dat T_ref05_State_rep) (cond (S 10) z6.1 z4.2.2)]) mixed rfl rfl rfl (fun S hS => hB S true (hS 10 (by decide))) ⟨?_, ?_, ?_, ?_, ?_, ?_, ?_, ?_, ?_, ?_, ?_, ?_, trivial⟩ ?_
      · intro S hc hk hp
        refine o_move rfl rfl guard_none (look_o rfl rfl) (fun _ => rfl) ?_
        exact h_end rfl rfl rfl (hB (fun k => S k || Nat.beq k 0) (S 10) (or_ne rfl))
      · intro S hc hk hp
        have e10 : S 10 = false := (not_yet (j := 10) (q := 3) hc hk rfl rfl rfl rfl)
        refine o_oloade 1 (y := z4.2.2) rfl type27 foc_self (by revert e10; cases S 10 <;> intro e10 <;> first | rfl | contradiction) rfl guard_none (look_o rfl rfl) (fun _ => rfl) ?_
        exact h_end rfl rfl rfl (hB (fun k => S k || Nat.beq k 1) (S 10) (or_ne rfl))
      · intro S hc hk hp
        refine o_move rfl rfl guard_none (look_o rfl rfl) (fun _ => rfl) ?_
        exact h_end rfl rfl rfl (hB (fun k => S k || Nat.beq k 2) (S 10) (or_ne rfl))
      · intro S hc hk hp
        refine o_move rfl rfl guard_none (look_o rfl rfl) (fun _ => rfl) ?_
        exact h_end rfl rfl rfl (hB (fun k => S k || Nat.beq k 3) (S 10) (or_ne rfl))
      · intro S hc hk hp
        refine o_from (bind_eqO h_z5) ?_
        refine o_iaddr Try.underlying23 type97 rfl rfl (look_d rfl rfl (pr hp 0 rfl rfl)) (look_d rfl rfl (pr hp 1 rfl rfl)) rfl rfl (o_eqO ?_)
        exact h_end rfl rfl rfl (hB (fun k => S k || Nat.beq k 4) (S 10) (or_ne rfl))
      · intro S hc hk hp
        refine o_load type97 rfl rfl guard_none (look_d rfl rfl (pr hp 0 rfl rfl)) (fun _ => rfl) ?_
        exact h_end rfl rfl rfl (hB (fun k => S k || Nat.beq k 5) (S 10) (or_ne rfl))
      · intro S hc hk hp
        refine o_from (bind_eqO h_z6) ?_
        refine o_call rfl rfl rfl callable54 (looks_cons (look_d rfl rfl (pr hp 0 rfl rfl)) (fun _ => rfl) (looks_cons (look_d rfl rfl (pr hp 1 rfl rfl)) (fun _ => rfl) (looks_cons (look_d rfl rfl (pr hp 2 rfl rfl)) (fun _ => rfl) (looks_nil)))) (law05_step_n0_ok _ _) (o_eqO ?_)
        exact h_end rfl rfl rfl (hB (fun k => S k || Nat.beq k 6) (S 10) (or_ne rfl))
      · intro S hc hk hp
        refine o_move rfl rfl guard_none (look_d rfl rfl (pr hp 0 rfl rfl)) (fun _ => rfl) ?_
        exact h_end rfl rfl rfl (hB (fun k => S k || Nat.beq k 7) (S 10) (or_ne rfl))
      · intro S hc hk hp
        refine o_fst rfl rfl guard_none (look_d rfl rfl (pr hp 0 rfl rfl)) (fun _ => rfl) ?_
        exact h_end rfl rfl rfl (hB (fun k => S k || Nat.beq k 8) (S 10) (or_ne rfl))
      · intro S hc hk hp
        refine o_snd rfl rfl guard_none (look_d rfl rfl (pr hp 0 rfl rfl)) (fun _ => rfl) ?_
        exact h_end rfl rfl rfl (hB (fun k => S k || Nat.beq k 9) (S 10) (or_ne rfl))
      · intro S hc hk hp
        refine eq_H (H' := [.obj true z2 0 (.dat T_ref05_State_rep) T_ref05_State_zero, .obj true z1 0 (.dat T_ref05_State_rep) z4.2.2]) (hB S false hk) ?_
        refine o_weak (H' := [.obj true z1 0 (.dat T_ref05_State_rep) z4.2.2, .obj true z2 0 (.dat T_ref05_State_rep) T_ref05_State_zero]) (sub_pick [1, 0] rfl rfl) ?_
        refine o_ostore type27 foc_self guard_none (look_o rfl rfl) (fun _ => rfl) (look_d rfl rfl (pr hp 0 rfl rfl)) (fun _ => rfl) ?_
        refine o_weak (H' := [.obj true z2 0 (.dat T_ref05_State_rep) T_ref05_State_zero, .obj true z1 0 (.dat T_ref05_State_rep) z6.1]) (sub_pick [1, 0] rfl rfl) ?_
        refine h_none (n := 31) (d := 41) rfl rfl ?_
        exact h_end rfl rfl rfl (hB (fun k => S k || Nat.beq k 10) true (or_i rfl))
      · intro S hc hk hp
        refine o_assign rfl rfl guard_none (look_d rfl rfl (pr hp 0 rfl rfl)) (fun _ => rfl) ?_
        exact h_end rfl rfl rfl (hB (fun k => S k || Nat.beq k 11) (S 10) (or_ne rfl))
      refine den_blkend ?_
      refine den_region rfl ?_
      refine o_move rfl rfl guard_none (look_tmp rfl) (fun _ => rfl) ?_
      refine o_add rfl rfl guard_none (look_tmp rfl) (look_int rfl) (fun _ => rfl) (fun _ => rfl) ?_
      refine o_assign rfl rfl guard_none (look_tmp rfl) (fun _ => rfl) ?_
      refine o_end ?_
      refine den_next ((sub_env (sube_cons rfl (sube_cons rfl (sube_cons rfl (sube_cons rfl (sube_cons rfl (sube_cons rfl (sube_nil)))))))))
    · refine den_code_exit ?_
      refine dene_out rfl ?_
      refine dene_loop (by simp) ?_
      refine dene_to rfl ?_
      refine den_end ((sub_env (sube_cons rfl (sube_cons rfl (sube_cons rfl (sube_nil))))))
  refine den_seq ?_
  refine den_region rfl ?_
  refine o_oloadi 1 rfl type27 foc_self rfl guard_none (look_tmp rfl) (fun _ => rfl) ?_
  refine o_move rfl rfl guard_none (look_tmp rfl) (fun _ => rfl) ?_
  refine o_ostore type27 foc_self guard_none (look_tmp rfl) (fun _ => rfl) (look_tmp rfl) (fun _ => rfl) ?_
  refine o_assign rfl rfl guard_none (look_tmp rfl) (fun _ => rfl) ?_
  refine o_end ?_
  refine den_code_ret ?_
  exact dene_res (res2 rfl (rv_cell 0 type27 rfl rfl) (rv_tmp rfl))

end Go.Proofs.Ytijfebipalhhjaa.M
