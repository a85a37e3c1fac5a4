/- That the Go functions answer as the plain ones: written by gen2.py. -/
import Derived.Test.YtcmkbaoeacingaaDoorOks1
namespace Go.Proofs.YtcmkbaoeacingaaDoor.M
open Go.Eng Go
set_option linter.unusedVariables false

set_option maxHeartbeats 1000000 in
theorem outline_Right_ok (fuel : Nat)  (r_0 : T_api_Right) : FunOkI Tryd.prog 15 [⟨T_api_Right_rep, r_0, true⟩] [] (outline_Right fuel r_0) (Rep.val1) (fun (α : Value) (y : (List Bytes)) => α) (fun α y => [.vec α (Rep.str) y]) := by
  refine fun_okI Tryd.func15 rfl Tryd.ntmps15 rfl (all_cons rfl all_nil) (fun w0 ok0 M => ?_)
  refine den_seq ?_
  refine den_region rfl ?_
  refine o_box rfl rfl (look_tmp rfl) rfl (fun z1 => ?_)
  refine o_assign rfl rfl guard_none look_nil1 (fun _ => rfl) ?_
  refine o_end ?_
  refine den_seq ?_
  refine den_region rfl ?_
  refine o_faddr field39_0 type9 (by decide) rfl rfl guard_none (look_tmp rfl) (fun _ => rfl) ?_
  refine o_oloadi 0 rfl type9 T_api_Right_foc0 rfl guard_none (look_tmp rfl) (fun _ => rfl) ?_
  refine o_bvecn Tryd.underlying41 (info_i info9) (info_z info9) type9 rfl rfl rfl rfl rfl (looksL_cons (look_tmp rfl) (fun _ => rfl) (looksL_nil)) (fun z2 => ?_)
  refine o_weak (sub_nilvec (R := Rep.str) rfl) ?_
  refine o_alloc zerooS41 rfl rfl (fun z3 => ?_)
  refine o_wstore (typeisv41 z2) foc2_isvi (look_tmp rfl) rfl (look_isvv 2 (.inl rfl) (look_tmp rfl)) rfl ?_
  refine o_end ?_
  refine den_seq ?_
  refine den_region rfl ?_
  refine o_mkfunc rfl rfl guard_none (looks_cons (look_tmp rfl) (fun _ => rfl) (looks_nil)) ?_
  refine o_assign rfl rfl guard_none (look_tmp rfl) (fun _ => rfl) ?_
  refine o_end ?_
  refine den_seq ?_
  refine den_open (fun z5 h_z5 => ?_)
  refine den_open (fun z6 h_z6 => ?_)
  refine den_open (fun z7 h_z7 => ?_)
  have hB : ∀ (z4α : Value) (S : Nat → Bool) (b7 : Bool), S 7 = b7 → (([(cond (S 7) (.obj true z3 0 (.dat (Rep.isvi (List Bytes) z4α)) z7) (.obj true z3 0 (.dat (Rep.isvi (List Bytes) z2)) ([] : (List Bytes)))), .vec (Value.slice none 0 0) (Rep.str) ([] : (List Bytes)), (cond (S 7) (.gone) (.vec z2 (Rep.str) ([r_0.Name] : List Bytes))), .obj true z1 0 (.dat T_api_Right_rep) r_0, (cond (S 7) (.vec (z4α) (Rep.str) z7) (.gone))] : List Go.Eng.Item)) = ([(cond b7 (.obj true z3 0 (.dat (Rep.isvi (List Bytes) z4α)) z7) (.obj true z3 0 (.dat (Rep.isvi (List Bytes) z2)) ([] : (List Bytes)))), .vec (Value.slice none 0 0) (Rep.str) ([] : (List Bytes)), (cond b7 (.gone) (.vec z2 (Rep.str) ([r_0.Name] : List Bytes))), .obj true z1 0 (.dat T_api_Right_rep) r_0, (cond b7 (.vec (z4α) (Rep.str) z7) (.gone))] : List Go.Eng.Item) := fun z4α S b7 h7 => by subst h7; rfl
  refine den_weak sub_gone ?_
  refine den_weak (sub_pick (H' := [.obj true z3 0 (.dat (Rep.isvi (List Bytes) z2)) ([] : (List Bytes)), .vec (Value.slice none 0 0) (Rep.str) ([] : (List Bytes)), .vec z2 (Rep.str) ([r_0.Name] : List Bytes), .obj true z1 0 (.dat T_api_Right_rep) r_0, .gone]) [1, 2, 3, 4, 0] rfl rfl) ?_
  refine den_drawA (A := Value) (H' := fun z4α => [.obj true z3 0 (.dat (Rep.isvi (List Bytes) z4α)) z7, .vec (Value.slice none 0 0) (Rep.str) ([] : (List Bytes)), .gone, .obj true z1 0 (.dat T_api_Right_rep) r_0, .vec (z4α) (Rep.str) z7]) (fun z4α => [(9, ⟨(Rep.clo 30 [⟨Rep.addr, (z3, 0), true⟩]), (), true⟩), (10, ⟨Rep.addr, (z1, 0 + 1), true⟩), (11, ⟨T_api_Expr_rep, r_0.Pre, true⟩), (12, ⟨Rep.bool, z5, true⟩), (13, ⟨Rep.addr, (z1, 0 + 1), true⟩), (14, ⟨T_api_Expr_rep, r_0.Pre, true⟩), (15, ⟨Rep.str, z6, true⟩), (16, ⟨Rep.unit, (), true⟩)]) (fun z4α S => [(cond (S 7) (.obj true z3 0 (.dat (Rep.isvi (List Bytes) z4α)) z7) (.obj true z3 0 (.dat (Rep.isvi (List Bytes) z2)) ([] : (List Bytes)))), .vec (Value.slice none 0 0) (Rep.str) ([] : (List Bytes)), (cond (S 7) (.gone) (.vec z2 (Rep.str) ([r_0.Name] : List Bytes))), .obj true z1 0 (.dat T_api_Right_rep) r_0, (cond (S 7) (.vec (z4α) (Rep.str) z7) (.gone))]) (Value.slice none 0 0) mixed (fun _ => rfl) rfl rfl (fun z4α S hS => hB z4α S true (hS 7 (by decide))) ⟨?_, ?_, ?_, ?_, ?_, ?_, ?_, ?_, trivial⟩ (fun z4α => ?_)
  · intro z4α S hc hk hp
    have e7 : S 7 = false := (not_yet (j := 7) (q := 0) hc hk rfl rfl rfl rfl)
    refine eq_H (H' := [.obj true z3 0 (.dat (Rep.isvi (List Bytes) z2)) ([] : (List Bytes)), .vec (Value.slice none 0 0) (Rep.str) ([] : (List Bytes)), .vec z2 (Rep.str) ([r_0.Name] : List Bytes), .obj true z1 0 (.dat T_api_Right_rep) r_0, .gone]) (by first | exact hB z4α S false e7 | (have q := hB z4α S false e7; simp only [cond_true, cond_false] at q; exact q)) ?_
    refine o_move rfl rfl guard_none (look_o rfl rfl) (fun _ => rfl) ?_
    apply h_endA (α := z4α) z4α
    · exact (.same (.same (.same (.same (.same (.same (.same (.same .nil))))))))
    · exact rfl
    · exact rfl
    · exact rfl
    · exact hB z4α (fun k => S k || Nat.beq k 0) false (or_f e7 rfl)
  · intro z4α S hc hk hp
    have e7 : S 7 = false := (not_yet (j := 7) (q := 1) hc (not_yet (j := 3) (q := 0) hc (not_yet (j := 2) (q := 0) hc hk rfl rfl rfl rfl) rfl rfl rfl rfl) rfl rfl rfl rfl)
    refine eq_H (H' := [.obj true z3 0 (.dat (Rep.isvi (List Bytes) z2)) ([] : (List Bytes)), .vec (Value.slice none 0 0) (Rep.str) ([] : (List Bytes)), .vec z2 (Rep.str) ([r_0.Name] : List Bytes), .obj true z1 0 (.dat T_api_Right_rep) r_0, .gone]) (by first | exact hB z4α S false e7 | (have q := hB z4α S false e7; simp only [cond_true, cond_false] at q; exact q)) ?_
    refine o_faddr field39_1 type35 (by decide) rfl rfl guard_none (look_o rfl rfl) (fun _ => rfl) ?_
    apply h_endA (α := z4α) z4α
    · exact (.same (.same (.same (.same (.same (.same (.same (.same .nil))))))))
    · exact rfl
    · exact rfl
    · exact rfl
    · exact hB z4α (fun k => S k || Nat.beq k 1) false (or_f e7 rfl)
  · intro z4α S hc hk hp
    have e7 : S 7 = false := (not_yet (j := 7) (q := 1) hc (not_yet (j := 3) (q := 0) hc hk rfl rfl rfl rfl) rfl rfl rfl rfl)
    refine eq_H (H' := [.obj true z3 0 (.dat (Rep.isvi (List Bytes) z2)) ([] : (List Bytes)), .vec (Value.slice none 0 0) (Rep.str) ([] : (List Bytes)), .vec z2 (Rep.str) ([r_0.Name] : List Bytes), .obj true z1 0 (.dat T_api_Right_rep) r_0, .gone]) (by first | exact hB z4α S false e7 | (have q := hB z4α S false e7; simp only [cond_true, cond_false] at q; exact q)) ?_
    refine o_oloadi 3 rfl type35 T_api_Right_foc1 rfl guard_none (look_d rfl rfl (pr hp 0 rfl rfl)) (fun _ => rfl) ?_
    apply h_endA (α := z4α) z4α
    · exact (.same (.same (.same (.same (.same (.same (.same (.same .nil))))))))
    · exact rfl
    · exact rfl
    · exact rfl
    · exact hB z4α (fun k => S k || Nat.beq k 2) false (or_f e7 rfl)
  · intro z4α S hc hk hp
    have e7 : S 7 = false := (not_yet (j := 7) (q := 1) hc hk rfl rfl rfl rfl)
    refine eq_H (H' := [.obj true z3 0 (.dat (Rep.isvi (List Bytes) z2)) ([] : (List Bytes)), .vec (Value.slice none 0 0) (Rep.str) ([] : (List Bytes)), .vec z2 (Rep.str) ([r_0.Name] : List Bytes), .obj true z1 0 (.dat T_api_Right_rep) r_0, .gone]) (by first | exact hB z4α S false e7 | (have q := hB z4α S false e7; simp only [cond_true, cond_false] at q; exact q)) ?_
    refine o_from (bind_eqO h_z5) ?_
    refine o_call rfl rfl rfl callable31 (looks_cons (look_d rfl rfl (pr hp 0 rfl rfl)) (fun _ => rfl) (looks_nil)) (outline_asks_ok fuel _) (o_eqO ?_)
    apply h_endA (α := z4α) z4α
    · exact (.same (.same (.same (.same (.same (.same (.same (.same .nil))))))))
    · exact rfl
    · exact rfl
    · exact rfl
    · exact hB z4α (fun k => S k || Nat.beq k 3) false (or_f e7 rfl)
  · intro z4α S hc hk hp
    have e7 : S 7 = false := (not_yet (j := 7) (q := 2) hc (not_yet (j := 6) (q := 0) hc (not_yet (j := 5) (q := 0) hc hk rfl rfl rfl rfl) rfl rfl rfl rfl) rfl rfl rfl rfl)
    refine eq_H (H' := [.obj true z3 0 (.dat (Rep.isvi (List Bytes) z2)) ([] : (List Bytes)), .vec (Value.slice none 0 0) (Rep.str) ([] : (List Bytes)), .vec z2 (Rep.str) ([r_0.Name] : List Bytes), .obj true z1 0 (.dat T_api_Right_rep) r_0, .gone]) (by first | exact hB z4α S false e7 | (have q := hB z4α S false e7; simp only [cond_true, cond_false] at q; exact q)) ?_
    refine o_faddr field39_1 type35 (by decide) rfl rfl guard_none (look_o rfl rfl) (fun _ => rfl) ?_
    apply h_endA (α := z4α) z4α
    · exact (.same (.same (.same (.same (.same (.same (.same (.same .nil))))))))
    · exact rfl
    · exact rfl
    · exact rfl
    · exact hB z4α (fun k => S k || Nat.beq k 4) false (or_f e7 rfl)
  · intro z4α S hc hk hp
    have e7 : S 7 = false := (not_yet (j := 7) (q := 2) hc (not_yet (j := 6) (q := 0) hc hk rfl rfl rfl rfl) rfl rfl rfl rfl)
    refine eq_H (H' := [.obj true z3 0 (.dat (Rep.isvi (List Bytes) z2)) ([] : (List Bytes)), .vec (Value.slice none 0 0) (Rep.str) ([] : (List Bytes)), .vec z2 (Rep.str) ([r_0.Name] : List Bytes), .obj true z1 0 (.dat T_api_Right_rep) r_0, .gone]) (by first | exact hB z4α S false e7 | (have q := hB z4α S false e7; simp only [cond_true, cond_false] at q; exact q)) ?_
    refine o_oloadi 3 rfl type35 T_api_Right_foc1 rfl guard_none (look_d rfl rfl (pr hp 0 rfl rfl)) (fun _ => rfl) ?_
    apply h_endA (α := z4α) z4α
    · exact (.same (.same (.same (.same (.same (.same (.same (.same .nil))))))))
    · exact rfl
    · exact rfl
    · exact rfl
    · exact hB z4α (fun k => S k || Nat.beq k 5) false (or_f e7 rfl)
  · intro z4α S hc hk hp
    have e7 : S 7 = false := (not_yet (j := 7) (q := 2) hc hk rfl rfl rfl rfl)
    refine eq_H (H' := [.obj true z3 0 (.dat (Rep.isvi (List Bytes) z2)) ([] : (List Bytes)), .vec (Value.slice none 0 0) (Rep.str) ([] : (List Bytes)), .vec z2 (Rep.str) ([r_0.Name] : List Bytes), .obj true z1 0 (.dat T_api_Right_rep) r_0, .gone]) (by first | exact hB z4α S false e7 | (have q := hB z4α S false e7; simp only [cond_true, cond_false] at q; exact q)) ?_
    refine o_from (bind_eqO h_z6) ?_
    refine o_call rfl rfl rfl callable32 (looks_cons (look_d rfl rfl (pr hp 0 rfl rfl)) (fun _ => rfl) (looks_nil)) (print_Expr_ok fuel _) (o_eqO ?_)
    apply h_endA (α := z4α) z4α
    · exact (.same (.same (.same (.same (.same (.same (.same (.same .nil))))))))
    · exact rfl
    · exact rfl
    · exact rfl
    · exact hB z4α (fun k => S k || Nat.beq k 6) false (or_f e7 rfl)
  · intro z4α S hc hk hp
    refine eq_H (H' := [.obj true z3 0 (.dat (Rep.isvi (List Bytes) z2)) ([] : (List Bytes)), .vec (Value.slice none 0 0) (Rep.str) ([] : (List Bytes)), .vec z2 (Rep.str) ([r_0.Name] : List Bytes), .obj true z1 0 (.dat T_api_Right_rep) r_0, .gone]) (by first | exact hB z4α S false hk | (have q := hB z4α S false hk; simp only [cond_true, cond_false] at q; exact q)) ?_
    refine o_from (bind_eqO h_z7) ?_
    refine o_weak (H' := [.obj true z3 0 (.dat (Rep.isvi (List Bytes) z2)) ([] : (List Bytes)), .vec (Value.slice none 0 0) (Rep.str) ([] : (List Bytes)), .vec z2 (Rep.str) ([r_0.Name] : List Bytes), .obj true z1 0 (.dat T_api_Right_rep) r_0, .gone]) (sub_pick [0, 1, 2, 3, 4] rfl rfl) ?_
    refine o_weak (sub_redat ([r_0.Name] : List Bytes) (fun _ _ _ h => h)) ?_
    refine o_weak (H' := [.vec z2 (Rep.str) ([r_0.Name] : List Bytes), .obj true z3 0 (.dat (Rep.isvi (List Bytes) z2)) ([r_0.Name] : List Bytes)] ++ ([] ++ [.vec (Value.slice none 0 0) (Rep.str) ([] : (List Bytes)), .obj true z1 0 (.dat T_api_Right_rep) r_0, .gone])) (sub_pick [2, 0, 1, 3, 4] rfl rfl) ?_
    refine o_callUE (enters_clo rfl (look_d rfl rfl (pr hp 0 rfl rfl)) (fun _ => rfl) rfl callable30 (looks_cons (look_str (l := [112, 114, 101]) rfl (by decide)) (fun _ => rfl) (looks_cons (look_d rfl rfl (pr hp 1 rfl rfl)) (fun _ => rfl) (looks_cons (look_d rfl rfl (pr hp 2 rfl rfl)) (fun _ => rfl) (looks_nil))))) rfl rfl rfl .nil (outline_Right_1_v0_ok _ _ _ ([112, 114, 101] : Bytes) z5 z6 ([r_0.Name] : List Bytes)) (fun _ _ => (wr_v (wr_c wr_n))) (fun z8α => o_eqOH ?_)
    refine o_weak (H' := [.vec z8α (Rep.str) z7, .obj true z3 0 (.dat (Rep.isvi (List Bytes) z8α)) z7, .vec (Value.slice none 0 0) (Rep.str) ([] : (List Bytes)), .obj true z1 0 (.dat T_api_Right_rep) r_0, .gone]) (sub_pick [0, 1, 2, 3, 4] rfl rfl) ?_
    refine o_weak sub_gone ?_
    refine o_weak (H' := [.obj true z3 0 (.dat (Rep.isvi (List Bytes) z8α)) z7, .vec (Value.slice none 0 0) (Rep.str) ([] : (List Bytes)), .gone, .obj true z1 0 (.dat T_api_Right_rep) r_0, .vec z8α (Rep.str) z7]) (sub_pick [2, 3, 0, 4, 1] rfl rfl) ?_
    apply h_endA (α := z4α) z8α
    · exact (.same (.same (.same (.same (.same (.same (.same (.same .nil))))))))
    · exact rfl
    · exact rfl
    · exact rfl
    · exact hB z8α (fun k => S k || Nat.beq k 7) true (or_i rfl)
  refine den_weak (H' := [.obj true z3 0 (.dat (Rep.isvi (List Bytes) z4α)) z7, .vec (Value.slice none 0 0) (Rep.str) ([] : (List Bytes)), .obj true z1 0 (.dat T_api_Right_rep) r_0, .vec z4α (Rep.str) z7]) (sub_pick [0, 1, 3, 4] rfl rfl) ?_
  refine den_seq ?_
  refine den_open (fun z10 h_z10 => ?_)
  refine den_open (fun z11 h_z11 => ?_)
  refine den_open (fun z12 h_z12 => ?_)
  have hB : ∀ (z9α : Value) (S : Nat → Bool) (b7 : Bool), S 7 = b7 → (([(cond (S 7) (.obj true z3 0 (.dat (Rep.isvi (List Bytes) z9α)) z12) (.obj true z3 0 (.dat (Rep.isvi (List Bytes) z4α)) z7)), .vec (Value.slice none 0 0) (Rep.str) ([] : (List Bytes)), .obj true z1 0 (.dat T_api_Right_rep) r_0, (cond (S 7) (.gone) (.vec z4α (Rep.str) z7)), (cond (S 7) (.vec (z9α) (Rep.str) z12) (.gone))] : List Go.Eng.Item)) = ([(cond b7 (.obj true z3 0 (.dat (Rep.isvi (List Bytes) z9α)) z12) (.obj true z3 0 (.dat (Rep.isvi (List Bytes) z4α)) z7)), .vec (Value.slice none 0 0) (Rep.str) ([] : (List Bytes)), .obj true z1 0 (.dat T_api_Right_rep) r_0, (cond b7 (.gone) (.vec z4α (Rep.str) z7)), (cond b7 (.vec (z9α) (Rep.str) z12) (.gone))] : List Go.Eng.Item) := fun z9α S b7 h7 => by subst h7; rfl
  refine den_weak sub_gone ?_
  refine den_weak (sub_pick (H' := [.obj true z3 0 (.dat (Rep.isvi (List Bytes) z4α)) z7, .vec (Value.slice none 0 0) (Rep.str) ([] : (List Bytes)), .obj true z1 0 (.dat T_api_Right_rep) r_0, .vec z4α (Rep.str) z7, .gone]) [1, 2, 3, 4, 0] rfl rfl) ?_
  refine den_drawA (A := Value) (H' := fun z9α => [.obj true z3 0 (.dat (Rep.isvi (List Bytes) z9α)) z12, .vec (Value.slice none 0 0) (Rep.str) ([] : (List Bytes)), .obj true z1 0 (.dat T_api_Right_rep) r_0, .gone, .vec (z9α) (Rep.str) z12]) (fun z9α => [(17, ⟨(Rep.clo 30 [⟨Rep.addr, (z3, 0), true⟩]), (), true⟩), (18, ⟨Rep.addr, (z1, 0 + 7), true⟩), (19, ⟨T_api_Expr_rep, r_0.On, true⟩), (20, ⟨Rep.bool, z10, true⟩), (21, ⟨Rep.addr, (z1, 0 + 7), true⟩), (22, ⟨T_api_Expr_rep, r_0.On, true⟩), (23, ⟨Rep.str, z11, true⟩), (24, ⟨Rep.unit, (), true⟩)]) (fun z9α S => [(cond (S 7) (.obj true z3 0 (.dat (Rep.isvi (List Bytes) z9α)) z12) (.obj true z3 0 (.dat (Rep.isvi (List Bytes) z4α)) z7)), .vec (Value.slice none 0 0) (Rep.str) ([] : (List Bytes)), .obj true z1 0 (.dat T_api_Right_rep) r_0, (cond (S 7) (.gone) (.vec z4α (Rep.str) z7)), (cond (S 7) (.vec (z9α) (Rep.str) z12) (.gone))]) (Value.slice none 0 0) mixed (fun _ => rfl) rfl rfl (fun z9α S hS => hB z9α S true (hS 7 (by decide))) ⟨?_, ?_, ?_, ?_, ?_, ?_, ?_, ?_, trivial⟩ (fun z9α => ?_)
  · intro z9α S hc hk hp
    have e7 : S 7 = false := (not_yet (j := 7) (q := 0) hc hk rfl rfl rfl rfl)
    refine eq_H (H' := [.obj true z3 0 (.dat (Rep.isvi (List Bytes) z4α)) z7, .vec (Value.slice none 0 0) (Rep.str) ([] : (List Bytes)), .obj true z1 0 (.dat T_api_Right_rep) r_0, .vec z4α (Rep.str) z7, .gone]) (by first | exact hB z9α S false e7 | (have q := hB z9α S false e7; simp only [cond_true, cond_false] at q; exact q)) ?_
    refine o_move rfl rfl guard_none (look_o rfl rfl) (fun _ => rfl) ?_
    apply h_endA (α := z9α) z9α
    · exact (.same (.same (.same (.same (.same (.same (.same (.same .nil))))))))
    · exact rfl
    · exact rfl
    · exact rfl
    · exact hB z9α (fun k => S k || Nat.beq k 0) false (or_f e7 rfl)
  · intro z9α S hc hk hp
    have e7 : S 7 = false := (not_yet (j := 7) (q := 1) hc (not_yet (j := 3) (q := 0) hc (not_yet (j := 2) (q := 0) hc hk rfl rfl rfl rfl) rfl rfl rfl rfl) rfl rfl rfl rfl)
    refine eq_H (H' := [.obj true z3 0 (.dat (Rep.isvi (List Bytes) z4α)) z7, .vec (Value.slice none 0 0) (Rep.str) ([] : (List Bytes)), .obj true z1 0 (.dat T_api_Right_rep) r_0, .vec z4α (Rep.str) z7, .gone]) (by first | exact hB z9α S false e7 | (have q := hB z9α S false e7; simp only [cond_true, cond_false] at q; exact q)) ?_
    refine o_faddr field39_2 type35 (by decide) rfl rfl guard_none (look_o rfl rfl) (fun _ => rfl) ?_
    apply h_endA (α := z9α) z9α
    · exact (.same (.same (.same (.same (.same (.same (.same (.same .nil))))))))
    · exact rfl
    · exact rfl
    · exact rfl
    · exact hB z9α (fun k => S k || Nat.beq k 1) false (or_f e7 rfl)
  · intro z9α S hc hk hp
    have e7 : S 7 = false := (not_yet (j := 7) (q := 1) hc (not_yet (j := 3) (q := 0) hc hk rfl rfl rfl rfl) rfl rfl rfl rfl)
    refine eq_H (H' := [.obj true z3 0 (.dat (Rep.isvi (List Bytes) z4α)) z7, .vec (Value.slice none 0 0) (Rep.str) ([] : (List Bytes)), .obj true z1 0 (.dat T_api_Right_rep) r_0, .vec z4α (Rep.str) z7, .gone]) (by first | exact hB z9α S false e7 | (have q := hB z9α S false e7; simp only [cond_true, cond_false] at q; exact q)) ?_
    refine o_oloadi 2 rfl type35 T_api_Right_foc2 rfl guard_none (look_d rfl rfl (pr hp 0 rfl rfl)) (fun _ => rfl) ?_
    apply h_endA (α := z9α) z9α
    · exact (.same (.same (.same (.same (.same (.same (.same (.same .nil))))))))
    · exact rfl
    · exact rfl
    · exact rfl
    · exact hB z9α (fun k => S k || Nat.beq k 2) false (or_f e7 rfl)
  · intro z9α S hc hk hp
    have e7 : S 7 = false := (not_yet (j := 7) (q := 1) hc hk rfl rfl rfl rfl)
    refine eq_H (H' := [.obj true z3 0 (.dat (Rep.isvi (List Bytes) z4α)) z7, .vec (Value.slice none 0 0) (Rep.str) ([] : (List Bytes)), .obj true z1 0 (.dat T_api_Right_rep) r_0, .vec z4α (Rep.str) z7, .gone]) (by first | exact hB z9α S false e7 | (have q := hB z9α S false e7; simp only [cond_true, cond_false] at q; exact q)) ?_
    refine o_from (bind_eqO h_z10) ?_
    refine o_call rfl rfl rfl callable31 (looks_cons (look_d rfl rfl (pr hp 0 rfl rfl)) (fun _ => rfl) (looks_nil)) (outline_asks_ok fuel _) (o_eqO ?_)
    apply h_endA (α := z9α) z9α
    · exact (.same (.same (.same (.same (.same (.same (.same (.same .nil))))))))
    · exact rfl
    · exact rfl
    · exact rfl
    · exact hB z9α (fun k => S k || Nat.beq k 3) false (or_f e7 rfl)
  · intro z9α S hc hk hp
    have e7 : S 7 = false := (not_yet (j := 7) (q := 2) hc (not_yet (j := 6) (q := 0) hc (not_yet (j := 5) (q := 0) hc hk rfl rfl rfl rfl) rfl rfl rfl rfl) rfl rfl rfl rfl)
    refine eq_H (H' := [.obj true z3 0 (.dat (Rep.isvi (List Bytes) z4α)) z7, .vec (Value.slice none 0 0) (Rep.str) ([] : (List Bytes)), .obj true z1 0 (.dat T_api_Right_rep) r_0, .vec z4α (Rep.str) z7, .gone]) (by first | exact hB z9α S false e7 | (have q := hB z9α S false e7; simp only [cond_true, cond_false] at q; exact q)) ?_
    refine o_faddr field39_2 type35 (by decide) rfl rfl guard_none (look_o rfl rfl) (fun _ => rfl) ?_
    apply h_endA (α := z9α) z9α
    · exact (.same (.same (.same (.same (.same (.same (.same (.same .nil))))))))
    · exact rfl
    · exact rfl
    · exact rfl
    · exact hB z9α (fun k => S k || Nat.beq k 4) false (or_f e7 rfl)
  · intro z9α S hc hk hp
    have e7 : S 7 = false := (not_yet (j := 7) (q := 2) hc (not_yet (j := 6) (q := 0) hc hk rfl rfl rfl rfl) rfl rfl rfl rfl)
    refine eq_H (H' := [.obj true z3 0 (.dat (Rep.isvi (List Bytes) z4α)) z7, .vec (Value.slice none 0 0) (Rep.str) ([] : (List Bytes)), .obj true z1 0 (.dat T_api_Right_rep) r_0, .vec z4α (Rep.str) z7, .gone]) (by first | exact hB z9α S false e7 | (have q := hB z9α S false e7; simp only [cond_true, cond_false] at q; exact q)) ?_
    refine o_oloadi 2 rfl type35 T_api_Right_foc2 rfl guard_none (look_d rfl rfl (pr hp 0 rfl rfl)) (fun _ => rfl) ?_
    apply h_endA (α := z9α) z9α
    · exact (.same (.same (.same (.same (.same (.same (.same (.same .nil))))))))
    · exact rfl
    · exact rfl
    · exact rfl
    · exact hB z9α (fun k => S k || Nat.beq k 5) false (or_f e7 rfl)
  · intro z9α S hc hk hp
    have e7 : S 7 = false := (not_yet (j := 7) (q := 2) hc hk rfl rfl rfl rfl)
    refine eq_H (H' := [.obj true z3 0 (.dat (Rep.isvi (List Bytes) z4α)) z7, .vec (Value.slice none 0 0) (Rep.str) ([] : (List Bytes)), .obj true z1 0 (.dat T_api_Right_rep) r_0, .vec z4α (Rep.str) z7, .gone]) (by first | exact hB z9α S false e7 | (have q := hB z9α S false e7; simp only [cond_true, cond_false] at q; exact q)) ?_
    refine o_from (bind_eqO h_z11) ?_
    refine o_call rfl rfl rfl callable32 (looks_cons (look_d rfl rfl (pr hp 0 rfl rfl)) (fun _ => rfl) (looks_nil)) (print_Expr_ok fuel _) (o_eqO ?_)
    apply h_endA (α := z9α) z9α
    · exact (.same (.same (.same (.same (.same (.same (.same (.same .nil))))))))
    · exact rfl
    · exact rfl
    · exact rfl
    · exact hB z9α (fun k => S k || Nat.beq k 6) false (or_f e7 rfl)
  · intro z9α S hc hk hp
    refine eq_H (H' := [.obj true z3 0 (.dat (Rep.isvi (List Bytes) z4α)) z7, .vec (Value.slice none 0 0) (Rep.str) ([] : (List Bytes)), .obj true z1 0 (.dat T_api_Right_rep) r_0, .vec z4α (Rep.str) z7, .gone]) (by first | exact hB z9α S false hk | (have q := hB z9α S false hk; simp only [cond_true, cond_false] at q; exact q)) ?_
    refine o_from (bind_eqO h_z12) ?_
    refine o_weak (H' := [.vec z4α (Rep.str) z7, .obj true z3 0 (.dat (Rep.isvi (List Bytes) z4α)) z7] ++ ([] ++ [.vec (Value.slice none 0 0) (Rep.str) ([] : (List Bytes)), .obj true z1 0 (.dat T_api_Right_rep) r_0, .gone])) (sub_pick [3, 0, 1, 2, 4] rfl rfl) ?_
    refine o_callUE (enters_clo rfl (look_d rfl rfl (pr hp 0 rfl rfl)) (fun _ => rfl) rfl callable30 (looks_cons (look_str (l := [111, 110]) rfl (by decide)) (fun _ => rfl) (looks_cons (look_d rfl rfl (pr hp 1 rfl rfl)) (fun _ => rfl) (looks_cons (look_d rfl rfl (pr hp 2 rfl rfl)) (fun _ => rfl) (looks_nil))))) rfl rfl rfl .nil (outline_Right_1_v0_ok _ _ _ ([111, 110] : Bytes) z10 z11 z7) (fun _ _ => (wr_v (wr_c wr_n))) (fun z13α => o_eqOH ?_)
    refine o_weak (H' := [.vec z13α (Rep.str) z12, .obj true z3 0 (.dat (Rep.isvi (List Bytes) z13α)) z12, .vec (Value.slice none 0 0) (Rep.str) ([] : (List Bytes)), .obj true z1 0 (.dat T_api_Right_rep) r_0, .gone]) (sub_pick [0, 1, 2, 3, 4] rfl rfl) ?_
    refine o_weak sub_gone ?_
    refine o_weak (H' := [.obj true z3 0 (.dat (Rep.isvi (List Bytes) z13α)) z12, .vec (Value.slice none 0 0) (Rep.str) ([] : (List Bytes)), .obj true z1 0 (.dat T_api_Right_rep) r_0, .gone, .vec z13α (Rep.str) z12]) (sub_pick [2, 3, 4, 0, 1] rfl rfl) ?_
    apply h_endA (α := z9α) z13α
    · exact (.same (.same (.same (.same (.same (.same (.same (.same .nil))))))))
    · exact rfl
    · exact rfl
    · exact rfl
    · exact hB z13α (fun k => S k || Nat.beq k 7) true (or_i rfl)
  refine den_weak (H' := [.obj true z3 0 (.dat (Rep.isvi (List Bytes) z9α)) z12, .vec (Value.slice none 0 0) (Rep.str) ([] : (List Bytes)), .obj true z1 0 (.dat T_api_Right_rep) r_0, .vec z9α (Rep.str) z12]) (sub_pick [0, 1, 2, 4] rfl rfl) ?_
  refine den_seq ?_
  refine den_open (fun z15 h_z15 => ?_)
  refine den_open (fun z16 h_z16 => ?_)
  have hB : ∀ (z14α : Value) (S : Nat → Bool) (b9 : Bool), S 9 = b9 → (([(cond (S 9) (.obj true z3 0 (.dat (Rep.isvi (List Bytes) z14α)) z16) (.obj true z3 0 (.dat (Rep.isvi (List Bytes) z9α)) z12)), .vec (Value.slice none 0 0) (Rep.str) ([] : (List Bytes)), .obj true z1 0 (.dat T_api_Right_rep) r_0, (cond (S 9) (.gone) (.vec z9α (Rep.str) z12)), (cond (S 9) (.vec (z14α) (Rep.str) z16) (.gone))] : List Go.Eng.Item)) = ([(cond b9 (.obj true z3 0 (.dat (Rep.isvi (List Bytes) z14α)) z16) (.obj true z3 0 (.dat (Rep.isvi (List Bytes) z9α)) z12)), .vec (Value.slice none 0 0) (Rep.str) ([] : (List Bytes)), .obj true z1 0 (.dat T_api_Right_rep) r_0, (cond b9 (.gone) (.vec z9α (Rep.str) z12)), (cond b9 (.vec (z14α) (Rep.str) z16) (.gone))] : List Go.Eng.Item) := fun z14α S b9 h9 => by subst h9; rfl
  refine den_weak sub_gone ?_
  refine den_weak (sub_pick (H' := [.obj true z3 0 (.dat (Rep.isvi (List Bytes) z9α)) z12, .vec (Value.slice none 0 0) (Rep.str) ([] : (List Bytes)), .obj true z1 0 (.dat T_api_Right_rep) r_0, .vec z9α (Rep.str) z12, .gone]) [1, 2, 3, 4, 0] rfl rfl) ?_
  refine den_drawA (A := Value) (H' := fun z14α => [.obj true z3 0 (.dat (Rep.isvi (List Bytes) z14α)) z16, .vec (Value.slice none 0 0) (Rep.str) ([] : (List Bytes)), .obj true z1 0 (.dat T_api_Right_rep) r_0, .gone, .vec (z14α) (Rep.str) z16]) (fun z14α => [(25, ⟨(Rep.clo 30 [⟨Rep.addr, (z3, 0), true⟩]), (), true⟩), (26, ⟨Rep.addr, (z1, 0 + 13), true⟩), (27, ⟨(T_api_Update_rep).slice, r_0.Before, true⟩), (28, ⟨Rep.int .i64, (r_0.Before.length : Int), true⟩), (29, ⟨Rep.bool, decide (0 < (r_0.Before.length : Int)), true⟩), (30, ⟨Rep.addr, (z1, 0 + 13), true⟩), (31, ⟨(T_api_Update_rep).slice, r_0.Before, true⟩), (32, ⟨Rep.int .i64, (r_0.Before.length : Int), true⟩), (33, ⟨Rep.str, z15, true⟩), (34, ⟨Rep.unit, (), true⟩)]) (fun z14α S => [(cond (S 9) (.obj true z3 0 (.dat (Rep.isvi (List Bytes) z14α)) z16) (.obj true z3 0 (.dat (Rep.isvi (List Bytes) z9α)) z12)), .vec (Value.slice none 0 0) (Rep.str) ([] : (List Bytes)), .obj true z1 0 (.dat T_api_Right_rep) r_0, (cond (S 9) (.gone) (.vec z9α (Rep.str) z12)), (cond (S 9) (.vec (z14α) (Rep.str) z16) (.gone))]) (Value.slice none 0 0) mixed (fun _ => rfl) rfl rfl (fun z14α S hS => hB z14α S true (hS 9 (by decide))) ⟨?_, ?_, ?_, ?_, ?_, ?_, ?_, ?_, ?_, ?_, trivial⟩ (fun z14α => ?_)
  · intro z14α S hc hk hp
    have e9 : S 9 = false := (not_yet (j := 9) (q := 0) hc hk rfl rfl rfl rfl)
    refine eq_H (H' := [.obj true z3 0 (.dat (Rep.isvi (List Bytes) z9α)) z12, .vec (Value.slice none 0 0) (Rep.str) ([] : (List Bytes)), .obj true z1 0 (.dat T_api_Right_rep) r_0, .vec z9α (Rep.str) z12, .gone]) (by first | exact hB z14α S false e9 | (have q := hB z14α S false e9; simp only [cond_true, cond_false] at q; exact q)) ?_
    refine o_move rfl rfl guard_none (look_o rfl rfl) (fun _ => rfl) ?_
    apply h_endA (α := z14α) z14α
    · exact (.same (.same (.same (.same (.same (.same (.same (.same (.same (.same .nil))))))))))
    · exact rfl
    · exact rfl
    · exact rfl
    · exact hB z14α (fun k => S k || Nat.beq k 0) false (or_f e9 rfl)
  · intro z14α S hc hk hp
    have e9 : S 9 = false := (not_yet (j := 9) (q := 1) hc (not_yet (j := 4) (q := 0) hc (not_yet (j := 3) (q := 0) hc (not_yet (j := 2) (q := 0) hc hk rfl rfl rfl rfl) rfl rfl rfl rfl) rfl rfl rfl rfl) rfl rfl rfl rfl)
    refine eq_H (H' := [.obj true z3 0 (.dat (Rep.isvi (List Bytes) z9α)) z12, .vec (Value.slice none 0 0) (Rep.str) ([] : (List Bytes)), .obj true z1 0 (.dat T_api_Right_rep) r_0, .vec z9α (Rep.str) z12, .gone]) (by first | exact hB z14α S false e9 | (have q := hB z14α S false e9; simp only [cond_true, cond_false] at q; exact q)) ?_
    refine o_faddr field39_3 type36 (by decide) rfl rfl guard_none (look_o rfl rfl) (fun _ => rfl) ?_
    apply h_endA (α := z14α) z14α
    · exact (.same (.same (.same (.same (.same (.same (.same (.same (.same (.same .nil))))))))))
    · exact rfl
    · exact rfl
    · exact rfl
    · exact hB z14α (fun k => S k || Nat.beq k 1) false (or_f e9 rfl)
  · intro z14α S hc hk hp
    have e9 : S 9 = false := (not_yet (j := 9) (q := 1) hc (not_yet (j := 4) (q := 0) hc (not_yet (j := 3) (q := 0) hc hk rfl rfl rfl rfl) rfl rfl rfl rfl) rfl rfl rfl rfl)
    refine eq_H (H' := [.obj true z3 0 (.dat (Rep.isvi (List Bytes) z9α)) z12, .vec (Value.slice none 0 0) (Rep.str) ([] : (List Bytes)), .obj true z1 0 (.dat T_api_Right_rep) r_0, .vec z9α (Rep.str) z12, .gone]) (by first | exact hB z14α S false e9 | (have q := hB z14α S false e9; simp only [cond_true, cond_false] at q; exact q)) ?_
    refine o_oloadi 2 rfl type36 T_api_Right_foc3 rfl guard_none (look_d rfl rfl (pr hp 0 rfl rfl)) (fun _ => rfl) ?_
    apply h_endA (α := z14α) z14α
    · exact (.same (.same (.same (.same (.same (.same (.same (.same (.same (.same .nil))))))))))
    · exact rfl
    · exact rfl
    · exact rfl
    · exact hB z14α (fun k => S k || Nat.beq k 2) false (or_f e9 rfl)
  · intro z14α S hc hk hp
    have e9 : S 9 = false := (not_yet (j := 9) (q := 1) hc (not_yet (j := 4) (q := 0) hc hk rfl rfl rfl rfl) rfl rfl rfl rfl)
    refine eq_H (H' := [.obj true z3 0 (.dat (Rep.isvi (List Bytes) z9α)) z12, .vec (Value.slice none 0 0) (Rep.str) ([] : (List Bytes)), .obj true z1 0 (.dat T_api_Right_rep) r_0, .vec z9α (Rep.str) z12, .gone]) (by first | exact hB z14α S false e9 | (have q := hB z14α S false e9; simp only [cond_true, cond_false] at q; exact q)) ?_
    refine o_llen Tryd.underlying36 rfl rfl guard_none (look_d rfl rfl (pr hp 0 rfl rfl)) (fun _ => rfl) ?_
    apply h_endA (α := z14α) z14α
    · exact (.same (.same (.same (.same (.same (.same (.same (.same (.same (.same .nil))))))))))
    · exact rfl
    · exact rfl
    · exact rfl
    · exact hB z14α (fun k => S k || Nat.beq k 3) false (or_f e9 rfl)
  · intro z14α S hc hk hp
    have e9 : S 9 = false := (not_yet (j := 9) (q := 1) hc hk rfl rfl rfl rfl)
    refine eq_H (H' := [.obj true z3 0 (.dat (Rep.isvi (List Bytes) z9α)) z12, .vec (Value.slice none 0 0) (Rep.str) ([] : (List Bytes)), .obj true z1 0 (.dat T_api_Right_rep) r_0, .vec z9α (Rep.str) z12, .gone]) (by first | exact hB z14α S false e9 | (have q := hB z14α S false e9; simp only [cond_true, cond_false] at q; exact q)) ?_
    refine o_gtr rfl rfl guard_none (look_d rfl rfl (pr hp 0 rfl rfl)) (look_int rfl) (fun _ => rfl) (fun _ => rfl) ?_
    apply h_endA (α := z14α) z14α
    · exact (.same (.same (.same (.same (.same (.same (.same (.same (.same (.same .nil))))))))))
    · exact rfl
    · exact rfl
    · exact rfl
    · exact hB z14α (fun k => S k || Nat.beq k 4) false (or_f e9 rfl)
  · intro z14α S hc hk hp
    have e9 : S 9 = false := (not_yet (j := 9) (q := 2) hc (not_yet (j := 8) (q := 0) hc (not_yet (j := 7) (q := 0) hc (not_yet (j := 6) (q := 0) hc hk rfl rfl rfl rfl) rfl rfl rfl rfl) rfl rfl rfl rfl) rfl rfl rfl rfl)
    refine eq_H (H' := [.obj true z3 0 (.dat (Rep.isvi (List Bytes) z9α)) z12, .vec (Value.slice none 0 0) (Rep.str) ([] : (List Bytes)), .obj true z1 0 (.dat T_api_Right_rep) r_0, .vec z9α (Rep.str) z12, .gone]) (by first | exact hB z14α S false e9 | (have q := hB z14α S false e9; simp only [cond_true, cond_false] at q; exact q)) ?_
    refine o_faddr field39_3 type36 (by decide) rfl rfl guard_none (look_o rfl rfl) (fun _ => rfl) ?_
    apply h_endA (α := z14α) z14α
    · exact (.same (.same (.same (.same (.same (.same (.same (.same (.same (.same .nil))))))))))
    · exact rfl
    · exact rfl
    · exact rfl
    · exact hB z14α (fun k => S k || Nat.beq k 5) false (or_f e9 rfl)
  · intro z14α S hc hk hp
    have e9 : S 9 = false := (not_yet (j := 9) (q := 2) hc (not_yet (j := 8) (q := 0) hc (not_yet (j := 7) (q := 0) hc hk rfl rfl rfl rfl) rfl rfl rfl rfl) rfl rfl rfl rfl)
    refine eq_H (H' := [.obj true z3 0 (.dat (Rep.isvi (List Bytes) z9α)) z12, .vec (Value.slice none 0 0) (Rep.str) ([] : (List Bytes)), .obj true z1 0 (.dat T_api_Right_rep) r_0, .vec z9α (Rep.str) z12, .gone]) (by first | exact hB z14α S false e9 | (have q := hB z14α S false e9; simp only [cond_true, cond_false] at q; exact q)) ?_
    refine o_oloadi 2 rfl type36 T_api_Right_foc3 rfl guard_none (look_d rfl rfl (pr hp 0 rfl rfl)) (fun _ => rfl) ?_
    apply h_endA (α := z14α) z14α
    · exact (.same (.same (.same (.same (.same (.same (.same (.same (.same (.same .nil))))))))))
    · exact rfl
    · exact rfl
    · exact rfl
    · exact hB z14α (fun k => S k || Nat.beq k 6) false (or_f e9 rfl)
  · intro z14α S hc hk hp
    have e9 : S 9 = false := (not_yet (j := 9) (q := 2) hc (not_yet (j := 8) (q := 0) hc hk rfl rfl rfl rfl) rfl rfl rfl rfl)
    refine eq_H (H' := [.obj true z3 0 (.dat (Rep.isvi (List Bytes) z9α)) z12, .vec (Value.slice none 0 0) (Rep.str) ([] : (List Bytes)), .obj true z1 0 (.dat T_api_Right_rep) r_0, .vec z9α (Rep.str) z12, .gone]) (by first | exact hB z14α S false e9 | (have q := hB z14α S false e9; simp only [cond_true, cond_false] at q; exact q)) ?_
    refine o_llen Tryd.underlying36 rfl rfl guard_none (look_d rfl rfl (pr hp 0 rfl rfl)) (fun _ => rfl) ?_
    apply h_endA (α := z14α) z14α
    · exact (.same (.same (.same (.same (.same (.same (.same (.same (.same (.same .nil))))))))))
    · exact rfl
    · exact rfl
    · exact rfl
    · exact hB z14α (fun k => S k || Nat.beq k 7) false (or_f e9 rfl)
  · intro z14α S hc hk hp
    have e9 : S 9 = false := (not_yet (j := 9) (q := 2) hc hk rfl rfl rfl rfl)
    refine eq_H (H' := [.obj true z3 0 (.dat (Rep.isvi (List Bytes) z9α)) z12, .vec (Value.slice none 0 0) (Rep.str) ([] : (List Bytes)), .obj true z1 0 (.dat T_api_Right_rep) r_0, .vec z9α (Rep.str) z12, .gone]) (by first | exact hB z14α S false e9 | (have q := hB z14α S false e9; simp only [cond_true, cond_false] at q; exact q)) ?_
    refine o_from (bind_eqO h_z15) ?_
    refine o_call rfl rfl rfl callable17 (looks_cons (look_d rfl rfl (pr hp 0 rfl rfl)) (fun _ => rfl) (looks_nil)) (outline_decimal_ok _) (o_eqO ?_)
    apply h_endA (α := z14α) z14α
    · exact (.same (.same (.same (.same (.same (.same (.same (.same (.same (.same .nil))))))))))
    · exact rfl
    · exact rfl
    · exact rfl
    · exact hB z14α (fun k => S k || Nat.beq k 8) false (or_f e9 rfl)
  · intro z14α S hc hk hp
    refine eq_H (H' := [.obj true z3 0 (.dat (Rep.isvi (List Bytes) z9α)) z12, .vec (Value.slice none 0 0) (Rep.str) ([] : (List Bytes)), .obj true z1 0 (.dat T_api_Right_rep) r_0, .vec z9α (Rep.str) z12, .gone]) (by first | exact hB z14α S false hk | (have q := hB z14α S false hk; simp only [cond_true, cond_false] at q; exact q)) ?_
    refine o_from (bind_eqO h_z16) ?_
    refine o_weak (H' := [.vec z9α (Rep.str) z12, .obj true z3 0 (.dat (Rep.isvi (List Bytes) z9α)) z12] ++ ([] ++ [.vec (Value.slice none 0 0) (Rep.str) ([] : (List Bytes)), .obj true z1 0 (.dat T_api_Right_rep) r_0, .gone])) (sub_pick [3, 0, 1, 2, 4] rfl rfl) ?_
    refine o_callUE (enters_clo rfl (look_d rfl rfl (pr hp 0 rfl rfl)) (fun _ => rfl) rfl callable30 (looks_cons (look_str (l := [98, 101, 102, 111, 114, 101]) rfl (by decide)) (fun _ => rfl) (looks_cons (look_d rfl rfl (pr hp 1 rfl rfl)) (fun _ => rfl) (looks_cons (look_d rfl rfl (pr hp 2 rfl rfl)) (fun _ => rfl) (looks_nil))))) rfl rfl rfl .nil (outline_Right_1_v0_ok _ _ _ ([98, 101, 102, 111, 114, 101] : Bytes) (decide (0 < (r_0.Before.length : Int))) z15 z12) (fun _ _ => (wr_v (wr_c wr_n))) (fun z17α => o_eqOH ?_)
    refine o_weak (H' := [.vec z17α (Rep.str) z16, .obj true z3 0 (.dat (Rep.isvi (List Bytes) z17α)) z16, .vec (Value.slice none 0 0) (Rep.str) ([] : (List Bytes)), .obj true z1 0 (.dat T_api_Right_rep) r_0, .gone]) (sub_pick [0, 1, 2, 3, 4] rfl rfl) ?_
    refine o_weak sub_gone ?_
    refine o_weak (H' := [.obj true z3 0 (.dat (Rep.isvi (List Bytes) z17α)) z16, .vec (Value.slice none 0 0) (Rep.str) ([] : (List Bytes)), .obj true z1 0 (.dat T_api_Right_rep) r_0, .gone, .vec z17α (Rep.str) z16]) (sub_pick [2, 3, 4, 0, 1] rfl rfl) ?_
    apply h_endA (α := z14α) z17α
    · exact (.same (.same (.same (.same (.same (.same (.same (.same (.same (.same .nil))))))))))
    · exact rfl
    · exact rfl
    · exact rfl
    · exact hB z17α (fun k => S k || Nat.beq k 9) true (or_i rfl)
  refine den_weak (H' := [.obj true z3 0 (.dat (Rep.isvi (List Bytes) z14α)) z16, .vec (Value.slice none 0 0) (Rep.str) ([] : (List Bytes)), .obj true z1 0 (.dat T_api_Right_rep) r_0, .vec z14α (Rep.str) z16]) (sub_pick [0, 1, 2, 4] rfl rfl) ?_
  refine den_seq ?_
  refine den_open (fun z19 h_z19 => ?_)
  refine den_open (fun z20 h_z20 => ?_)
  have hB : ∀ (z18α : Value) (S : Nat → Bool) (b9 : Bool), S 9 = b9 → (([(cond (S 9) (.obj true z3 0 (.dat (Rep.isvi (List Bytes) z18α)) z20) (.obj true z3 0 (.dat (Rep.isvi (List Bytes) z14α)) z16)), .vec (Value.slice none 0 0) (Rep.str) ([] : (List Bytes)), .obj true z1 0 (.dat T_api_Right_rep) r_0, (cond (S 9) (.gone) (.vec z14α (Rep.str) z16)), (cond (S 9) (.vec (z18α) (Rep.str) z20) (.gone))] : List Go.Eng.Item)) = ([(cond b9 (.obj true z3 0 (.dat (Rep.isvi (List Bytes) z18α)) z20) (.obj true z3 0 (.dat (Rep.isvi (List Bytes) z14α)) z16)), .vec (Value.slice none 0 0) (Rep.str) ([] : (List Bytes)), .obj true z1 0 (.dat T_api_Right_rep) r_0, (cond b9 (.gone) (.vec z14α (Rep.str) z16)), (cond b9 (.vec (z18α) (Rep.str) z20) (.gone))] : List Go.Eng.Item) := fun z18α S b9 h9 => by subst h9; rfl
  refine den_weak sub_gone ?_
  refine den_weak (sub_pick (H' := [.obj true z3 0 (.dat (Rep.isvi (List Bytes) z14α)) z16, .vec (Value.slice none 0 0) (Rep.str) ([] : (List Bytes)), .obj true z1 0 (.dat T_api_Right_rep) r_0, .vec z14α (Rep.str) z16, .gone]) [1, 2, 3, 4, 0] rfl rfl) ?_
  refine den_drawA (A := Value) (H' := fun z18α => [.obj true z3 0 (.dat (Rep.isvi (List Bytes) z18α)) z20, .vec (Value.slice none 0 0) (Rep.str) ([] : (List Bytes)), .obj true z1 0 (.dat T_api_Right_rep) r_0, .gone, .vec (z18α) (Rep.str) z20]) (fun z18α => [(35, ⟨(Rep.clo 30 [⟨Rep.addr, (z3, 0), true⟩]), (), true⟩), (36, ⟨Rep.addr, (z1, 0 + 14), true⟩), (37, ⟨(T_api_Update_rep).slice, r_0.During, true⟩), (38, ⟨Rep.int .i64, (r_0.During.length : Int), true⟩), (39, ⟨Rep.bool, decide (0 < (r_0.During.length : Int)), true⟩), (40, ⟨Rep.addr, (z1, 0 + 14), true⟩), (41, ⟨(T_api_Update_rep).slice, r_0.During, true⟩), (42, ⟨Rep.int .i64, (r_0.During.length : Int), true⟩), (43, ⟨Rep.str, z19, true⟩), (44, ⟨Rep.unit, (), true⟩)]) (fun z18α S => [(cond (S 9) (.obj true z3 0 (.dat (Rep.isvi (List Bytes) z18α)) z20) (.obj true z3 0 (.dat (Rep.isvi (List Bytes) z14α)) z16)), .vec (Value.slice none 0 0) (Rep.str) ([] : (List Bytes)), .obj true z1 0 (.dat T_api_Right_rep) r_0, (cond (S 9) (.gone) (.vec z14α (Rep.str) z16)), (cond (S 9) (.vec (z18α) (Rep.str) z20) (.gone))]) (Value.slice none 0 0) mixed (fun _ => rfl) rfl rfl (fun z18α S hS => hB z18α S true (hS 9 (by decide))) ⟨?_, ?_, ?_, ?_, ?_, ?_, ?_, ?_, ?_, ?_, trivial⟩ (fun z18α => ?_)
  · intro z18α S hc hk hp
    have e9 : S 9 = false := (not_yet (j := 9) (q := 0) hc hk rfl rfl rfl rfl)
    refine eq_H (H' := [.obj true z3 0 (.dat (Rep.isvi (List Bytes) z14α)) z16, .vec (Value.slice none 0 0) (Rep.str) ([] : (List Bytes)), .obj true z1 0 (.dat T_api_Right_rep) r_0, .vec z14α (Rep.str) z16, .gone]) (by first | exact hB z18α S false e9 | (have q := hB z18α S false e9; simp only [cond_true, cond_false] at q; exact q)) ?_
    refine o_move rfl rfl guard_none (look_o rfl rfl) (fun _ => rfl) ?_
    apply h_endA (α := z18α) z18α
    · exact (.same (.same (.same (.same (.same (.same (.same (.same (.same (.same .nil))))))))))
    · exact rfl
    · exact rfl
    · exact rfl
    · exact hB z18α (fun k => S k || Nat.beq k 0) false (or_f e9 rfl)
  · intro z18α S hc hk hp
    have e9 : S 9 = false := (not_yet (j := 9) (q := 1) hc (not_yet (j := 4) (q := 0) hc (not_yet (j := 3) (q := 0) hc (not_yet (j := 2) (q := 0) hc hk rfl rfl rfl rfl) rfl rfl rfl rfl) rfl rfl rfl rfl) rfl rfl rfl rfl)
    refine eq_H (H' := [.obj true z3 0 (.dat (Rep.isvi (List Bytes) z14α)) z16, .vec (Value.slice none 0 0) (Rep.str) ([] : (List Bytes)), .obj true z1 0 (.dat T_api_Right_rep) r_0, .vec z14α (Rep.str) z16, .gone]) (by first | exact hB z18α S false e9 | (have q := hB z18α S false e9; simp only [cond_true, cond_false] at q; exact q)) ?_
    refine o_faddr field39_4 type36 (by decide) rfl rfl guard_none (look_o rfl rfl) (fun _ => rfl) ?_
    apply h_endA (α := z18α) z18α
    · exact (.same (.same (.same (.same (.same (.same (.same (.same (.same (.same .nil))))))))))
    · exact rfl
    · exact rfl
    · exact rfl
    · exact hB z18α (fun k => S k || Nat.beq k 1) false (or_f e9 rfl)
  · intro z18α S hc hk hp
    have e9 : S 9 = false := (not_yet (j := 9) (q := 1) hc (not_yet (j := 4) (q := 0) hc (not_yet (j := 3) (q := 0) hc hk rfl rfl rfl rfl) rfl rfl rfl rfl) rfl rfl rfl rfl)
    refine eq_H (H' := [.obj true z3 0 (.dat (Rep.isvi (List Bytes) z14α)) z16, .vec (Value.slice none 0 0) (Rep.str) ([] : (List Bytes)), .obj true z1 0 (.dat T_api_Right_rep) r_0, .vec z14α (Rep.str) z16, .gone]) (by first | exact hB z18α S false e9 | (have q := hB z18α S false e9; simp only [cond_true, cond_false] at q; exact q)) ?_
    refine o_oloadi 2 rfl type36 T_api_Right_foc4 rfl guard_none (look_d rfl rfl (pr hp 0 rfl rfl)) (fun _ => rfl) ?_
    apply h_endA (α := z18α) z18α
    · exact (.same (.same (.same (.same (.same (.same (.same (.same (.same (.same .nil))))))))))
    · exact rfl
    · exact rfl
    · exact rfl
    · exact hB z18α (fun k => S k || Nat.beq k 2) false (or_f e9 rfl)
  · intro z18α S hc hk hp
    have e9 : S 9 = false := (not_yet (j := 9) (q := 1) hc (not_yet (j := 4) (q := 0) hc hk rfl rfl rfl rfl) rfl rfl rfl rfl)
    refine eq_H (H' := [.obj true z3 0 (.dat (Rep.isvi (List Bytes) z14α)) z16, .vec (Value.slice none 0 0) (Rep.str) ([] : (List Bytes)), .obj true z1 0 (.dat T_api_Right_rep) r_0, .vec z14α (Rep.str) z16, .gone]) (by first | exact hB z18α S false e9 | (have q := hB z18α S false e9; simp only [cond_true, cond_false] at q; exact q)) ?_
    refine o_llen Tryd.underlying36 rfl rfl guard_none (look_d rfl rfl (pr hp 0 rfl rfl)) (fun _ => rfl) ?_
    apply h_endA (α := z18α) z18α
    · exact (.same (.same (.same (.same (.same (.same (.same (.same (.same (.same .nil))))))))))
    · exact rfl
    · exact rfl
    · exact rfl
    · exact hB z18α (fun k => S k || Nat.beq k 3) false (or_f e9 rfl)
  · intro z18α S hc hk hp
    have e9 : S 9 = false := (not_yet (j := 9) (q := 1) hc hk rfl rfl rfl rfl)
    refine eq_H (H' := [.obj true z3 0 (.dat (Rep.isvi (List Bytes) z14α)) z16, .vec (Value.slice none 0 0) (Rep.str) ([] : (List Bytes)), .obj true z1 0 (.dat T_api_Right_rep) r_0, .vec z14α (Rep.str) z16, .gone]) (by first | exact hB z18α S false e9 | (have q := hB z18α S false e9; simp only [cond_true, cond_false] at q; exact q)) ?_
    refine o_gtr rfl rfl guard_none (look_d rfl rfl (pr hp 0 rfl rfl)) (look_int rfl) (fun _ => rfl) (fun _ => rfl) ?_
    apply h_endA (α := z18α) z18α
    · exact (.same (.same (.same (.same (.same (.same (.same (.same (.same (.same .nil))))))))))
    · exact rfl
    · exact rfl
    · exact rfl
    · exact hB z18α (fun k => S k || Nat.beq k 4) false (or_f e9 rfl)
  · intro z18α S hc hk hp
    have e9 : S 9 = false := (not_yet (j := 9) (q := 2) hc (not_yet (j := 8) (q := 0) hc (not_yet (j := 7) (q := 0) hc (not_yet (j := 6) (q := 0) hc hk rfl rfl rfl rfl) rfl rfl rfl rfl) rfl rfl rfl rfl) rfl rfl rfl rfl)
    refine eq_H (H' := [.obj true z3 0 (.dat (Rep.isvi (List Bytes) z14α)) z16, .vec (Value.slice none 0 0) (Rep.str) ([] : (List Bytes)), .obj true z1 0 (.dat T_api_Right_rep) r_0, .vec z14α (Rep.str) z16, .gone]) (by first | exact hB z18α S false e9 | (have q := hB z18α S false e9; simp only [cond_true, cond_false] at q; exact q)) ?_
    refine o_faddr field39_4 type36 (by decide) rfl rfl guard_none (look_o rfl rfl) (fun _ => rfl) ?_
    apply h_endA (α := z18α) z18α
    · exact (.same (.same (.same (.same (.same (.same (.same (.same (.same (.same .nil))))))))))
    · exact rfl
    · exact rfl
    · exact rfl
    · exact hB z18α (fun k => S k || Nat.beq k 5) false (or_f e9 rfl)
  · intro z18α S hc hk hp
    have e9 : S 9 = false := (not_yet (j := 9) (q := 2) hc (not_yet (j := 8) (q := 0) hc (not_yet (j := 7) (q := 0) hc hk rfl rfl rfl rfl) rfl rfl rfl rfl) rfl rfl rfl rfl)
    refine eq_H (H' := [.obj true z3 0 (.dat (Rep.isvi (List Bytes) z14α)) z16, .vec (Value.slice none 0 0) (Rep.str) ([] : (List Bytes)), .obj true z1 0 (.dat T_api_Right_rep) r_0, .vec z14α (Rep.str) z16, .gone]) (by first | exact hB z18α S false e9 | (have q := hB z18α S false e9; simp only [cond_true, cond_false] at q; exact q)) ?_
    refine o_oloadi 2 rfl type36 T_api_Right_foc4 rfl guard_none (look_d rfl rfl (pr hp 0 rfl rfl)) (fun _ => rfl) ?_
    apply h_endA (α := z18α) z18α
    · exact (.same (.same (.same (.same (.same (.same (.same (.same (.same (.same .nil))))))))))
    · exact rfl
    · exact rfl
    · exact rfl
    · exact hB z18α (fun k => S k || Nat.beq k 6) false (or_f e9 rfl)
  · intro z18α S hc hk hp
    have e9 : S 9 = false := (not_yet (j := 9) (q := 2) hc (not_yet (j := 8) (q := 0) hc hk rfl rfl rfl rfl) rfl rfl rfl rfl)
    refine eq_H (H' := [.obj true z3 0 (.dat (Rep.isvi (List Bytes) z14α)) z16, .vec (Value.slice none 0 0) (Rep.str) ([] : (List Bytes)), .obj true z1 0 (.dat T_api_Right_rep) r_0, .vec z14α (Rep.str) z16, .gone]) (by first | exact hB z18α S false e9 | (have q := hB z18α S false e9; simp only [cond_true, cond_false] at q; exact q)) ?_
    refine o_llen Tryd.underlying36 rfl rfl guard_none (look_d rfl rfl (pr hp 0 rfl rfl)) (fun _ => rfl) ?_
    apply h_endA (α := z18α) z18α
    · exact (.same (.same (.same (.same (.same (.same (.same (.same (.same (.same .nil))))))))))
    · exact rfl
    · exact rfl
    · exact rfl
    · exact hB z18α (fun k => S k || Nat.beq k 7) false (or_f e9 rfl)
  · intro z18α S hc hk hp
    have e9 : S 9 = false := (not_yet (j := 9) (q := 2) hc hk rfl rfl rfl rfl)
    refine eq_H (H' := [.obj true z3 0 (.dat (Rep.isvi (List Bytes) z14α)) z16, .vec (Value.slice none 0 0) (Rep.str) ([] : (List Bytes)), .obj true z1 0 (.dat T_api_Right_rep) r_0, .vec z14α (Rep.str) z16, .gone]) (by first | exact hB z18α S false e9 | (have q := hB z18α S false e9; simp only [cond_true, cond_false] at q; exact q)) ?_
    refine o_from (bind_eqO h_z19) ?_
    refine o_call rfl rfl rfl callable17 (looks_cons (look_d rfl rfl (pr hp 0 rfl rfl)) (fun _ => rfl) (looks_nil)) (outline_decimal_ok _) (o_eqO ?_)
    apply h_endA (α := z18α) z18α
    · exact (.same (.same (.same (.same (.same (.same (.same (.same (.same (.same .nil))))))))))
    · exact rfl
    · exact rfl
    · exact rfl
    · exact hB z18α (fun k => S k || Nat.beq k 8) false (or_f e9 rfl)
  · intro z18α S hc hk hp
    refine eq_H (H' := [.obj true z3 0 (.dat (Rep.isvi (List Bytes) z14α)) z16, .vec (Value.slice none 0 0) (Rep.str) ([] : (List Bytes)), .obj true z1 0 (.dat T_api_Right_rep) r_0, .vec z14α (Rep.str) z16, .gone]) (by first | exact hB z18α S false hk | (have q := hB z18α S false hk; simp only [cond_true, cond_false] at q; exact q)) ?_
    refine o_from (bind_eqO h_z20) ?_
    refine o_weak (H' := [.vec z14α (Rep.str) z16, .obj true z3 0 (.dat (Rep.isvi (List Bytes) z14α)) z16] ++ ([] ++ [.vec (Value.slice none 0 0) (Rep.str) ([] : (List Bytes)), .obj true z1 0 (.dat T_api_Right_rep) r_0, .gone])) (sub_pick [3, 0, 1, 2, 4] rfl rfl) ?_
    refine o_callUE (enters_clo rfl (look_d rfl rfl (pr hp 0 rfl rfl)) (fun _ => rfl) rfl callable30 (looks_cons (look_str (l := [100, 117, 114, 105, 110, 103]) rfl (by decide)) (fun _ => rfl) (looks_cons (look_d rfl rfl (pr hp 1 rfl rfl)) (fun _ => rfl) (looks_cons (look_d rfl rfl (pr hp 2 rfl rfl)) (fun _ => rfl) (looks_nil))))) rfl rfl rfl .nil (outline_Right_1_v0_ok _ _ _ ([100, 117, 114, 105, 110, 103] : Bytes) (decide (0 < (r_0.During.length : Int))) z19 z16) (fun _ _ => (wr_v (wr_c wr_n))) (fun z21α => o_eqOH ?_)
    refine o_weak (H' := [.vec z21α (Rep.str) z20, .obj true z3 0 (.dat (Rep.isvi (List Bytes) z21α)) z20, .vec (Value.slice none 0 0) (Rep.str) ([] : (List Bytes)), .obj true z1 0 (.dat T_api_Right_rep) r_0, .gone]) (sub_pick [0, 1, 2, 3, 4] rfl rfl) ?_
    refine o_weak sub_gone ?_
    refine o_weak (H' := [.obj true z3 0 (.dat (Rep.isvi (List Bytes) z21α)) z20, .vec (Value.slice none 0 0) (Rep.str) ([] : (List Bytes)), .obj true z1 0 (.dat T_api_Right_rep) r_0, .gone, .vec z21α (Rep.str) z20]) (sub_pick [2, 3, 4, 0, 1] rfl rfl) ?_
    apply h_endA (α := z18α) z21α
    · exact (.same (.same (.same (.same (.same (.same (.same (.same (.same (.same .nil))))))))))
    · exact rfl
    · exact rfl
    · exact rfl
    · exact hB z21α (fun k => S k || Nat.beq k 9) true (or_i rfl)
  refine den_weak (H' := [.obj true z3 0 (.dat (Rep.isvi (List Bytes) z18α)) z20, .vec (Value.slice none 0 0) (Rep.str) ([] : (List Bytes)), .obj true z1 0 (.dat T_api_Right_rep) r_0, .vec z18α (Rep.str) z20]) (sub_pick [0, 1, 2, 4] rfl rfl) ?_
  refine den_seq ?_
  refine den_open (fun z23 h_z23 => ?_)
  refine den_open (fun z24 h_z24 => ?_)
  have hB : ∀ (z22α : Value) (S : Nat → Bool) (b9 : Bool), S 9 = b9 → (([(cond (S 9) (.obj true z3 0 (.dat (Rep.isvi (List Bytes) z22α)) z24) (.obj true z3 0 (.dat (Rep.isvi (List Bytes) z18α)) z20)), .vec (Value.slice none 0 0) (Rep.str) ([] : (List Bytes)), .obj true z1 0 (.dat T_api_Right_rep) r_0, (cond (S 9) (.gone) (.vec z18α (Rep.str) z20)), (cond (S 9) (.vec (z22α) (Rep.str) z24) (.gone))] : List Go.Eng.Item)) = ([(cond b9 (.obj true z3 0 (.dat (Rep.isvi (List Bytes) z22α)) z24) (.obj true z3 0 (.dat (Rep.isvi (List Bytes) z18α)) z20)), .vec (Value.slice none 0 0) (Rep.str) ([] : (List Bytes)), .obj true z1 0 (.dat T_api_Right_rep) r_0, (cond b9 (.gone) (.vec z18α (Rep.str) z20)), (cond b9 (.vec (z22α) (Rep.str) z24) (.gone))] : List Go.Eng.Item) := fun z22α S b9 h9 => by subst h9; rfl
  refine den_weak sub_gone ?_
  refine den_weak (sub_pick (H' := [.obj true z3 0 (.dat (Rep.isvi (List Bytes) z18α)) z20, .vec (Value.slice none 0 0) (Rep.str) ([] : (List Bytes)), .obj true z1 0 (.dat T_api_Right_rep) r_0, .vec z18α (Rep.str) z20, .gone]) [1, 2, 3, 4, 0] rfl rfl) ?_
  refine den_drawA (A := Value) (H' := fun z22α => [.obj true z3 0 (.dat (Rep.isvi (List Bytes) z22α)) z24, .vec (Value.slice none 0 0) (Rep.str) ([] : (List Bytes)), .obj true z1 0 (.dat T_api_Right_rep) r_0, .gone, .vec (z22α) (Rep.str) z24]) (fun z22α => [(45, ⟨(Rep.clo 30 [⟨Rep.addr, (z3, 0), true⟩]), (), true⟩), (46, ⟨Rep.addr, (z1, 0 + 15), true⟩), (47, ⟨(T_api_Update_rep).slice, r_0.After, true⟩), (48, ⟨Rep.int .i64, (r_0.After.length : Int), true⟩), (49, ⟨Rep.bool, decide (0 < (r_0.After.length : Int)), true⟩), (50, ⟨Rep.addr, (z1, 0 + 15), true⟩), (51, ⟨(T_api_Update_rep).slice, r_0.After, true⟩), (52, ⟨Rep.int .i64, (r_0.After.length : Int), true⟩), (53, ⟨Rep.str, z23, true⟩), (54, ⟨Rep.unit, (), true⟩)]) (fun z22α S => [(cond (S 9) (.obj true z3 0 (.dat (Rep.isvi (List Bytes) z22α)) z24) (.obj true z3 0 (.dat (Rep.isvi (List Bytes) z18α)) z20)), .vec (Value.slice none 0 0) (Rep.str) ([] : (List Bytes)), .obj true z1 0 (.dat T_api_Right_rep) r_0, (cond (S 9) (.gone) (.vec z18α (Rep.str) z20)), (cond (S 9) (.vec (z22α) (Rep.str) z24) (.gone))]) (Value.slice none 0 0) mixed (fun _ => rfl) rfl rfl (fun z22α S hS => hB z22α S true (hS 9 (by decide))) ⟨?_, ?_, ?_, ?_, ?_, ?_, ?_, ?_, ?_, ?_, trivial⟩ (fun z22α => ?_)
  · intro z22α S hc hk hp
    have e9 : S 9 = false := (not_yet (j := 9) (q := 0) hc hk rfl rfl rfl rfl)
    refine eq_H (H' := [.obj true z3 0 (.dat (Rep.isvi (List Bytes) z18α)) z20, .vec (Value.slice none 0 0) (Rep.str) ([] : (List Bytes)), .obj true z1 0 (.dat T_api_Right_rep) r_0, .vec z18α (Rep.str) z20, .gone]) (by first | exact hB z22α S false e9 | (have q := hB z22α S false e9; simp only [cond_true, cond_false] at q; exact q)) ?_
    refine o_move rfl rfl guard_none (look_o rfl rfl) (fun _ => rfl) ?_
    apply h_endA (α := z22α) z22α
    · exact (.same (.same (.same (.same (.same (.same (.same (.same (.same (.same .nil))))))))))
    · exact rfl
    · exact rfl
    · exact rfl
    · exact hB z22α (fun k => S k || Nat.beq k 0) false (or_f e9 rfl)
  · intro z22α S hc hk hp
    have e9 : S 9 = false := (not_yet (j := 9) (q := 1) hc (not_yet (j := 4) (q := 0) hc (not_yet (j := 3) (q := 0) hc (not_yet (j := 2) (q := 0) hc hk rfl rfl rfl rfl) rfl rfl rfl rfl) rfl rfl rfl rfl) rfl rfl rfl rfl)
    refine eq_H (H' := [.obj true z3 0 (.dat (Rep.isvi (List Bytes) z18α)) z20, .vec (Value.slice none 0 0) (Rep.str) ([] : (List Bytes)), .obj true z1 0 (.dat T_api_Right_rep) r_0, .vec z18α (Rep.str) z20, .gone]) (by first | exact hB z22α S false e9 | (have q := hB z22α S false e9; simp only [cond_true, cond_false] at q; exact q)) ?_
    refine o_faddr field39_5 type36 (by decide) rfl rfl guard_none (look_o rfl rfl) (fun _ => rfl) ?_
    apply h_endA (α := z22α) z22α
    · exact (.same (.same (.same (.same (.same (.same (.same (.same (.same (.same .nil))))))))))
    · exact rfl
    · exact rfl
    · exact rfl
    · exact hB z22α (fun k => S k || Nat.beq k 1) false (or_f e9 rfl)
  · intro z22α S hc hk hp
    have e9 : S 9 = false := (not_yet (j := 9) (q := 1) hc (not_yet (j := 4) (q := 0) hc (not_yet (j := 3) (q := 0) hc hk rfl rfl rfl rfl) rfl rfl rfl rfl) rfl rfl rfl rfl)
    refine eq_H (H' := [.obj true z3 0 (.dat (Rep.isvi (List Bytes) z18α)) z20, .vec (Value.slice none 0 0) (Rep.str) ([] : (List Bytes)), .obj true z1 0 (.dat T_api_Right_rep) r_0, .vec z18α (Rep.str) z20, .gone]) (by first | exact hB z22α S false e9 | (have q := hB z22α S false e9; simp only [cond_true, cond_false] at q; exact q)) ?_
    refine o_oloadi 2 rfl type36 T_api_Right_foc5 rfl guard_none (look_d rfl rfl (pr hp 0 rfl rfl)) (fun _ => rfl) ?_
    apply h_endA (α := z22α) z22α
    · exact (.same (.same (.same (.same (.same (.same (.same (.same (.same (.same .nil))))))))))
    · exact rfl
    · exact rfl
    · exact rfl
    · exact hB z22α (fun k => S k || Nat.beq k 2) false (or_f e9 rfl)
  · intro z22α S hc hk hp
    have e9 : S 9 = false := (not_yet (j := 9) (q := 1) hc (not_yet (j := 4) (q := 0) hc hk rfl rfl rfl rfl) rfl rfl rfl rfl)
    refine eq_H (H' := [.obj true z3 0 (.dat (Rep.isvi (List Bytes) z18α)) z20, .vec (Value.slice none 0 0) (Rep.str) ([] : (List Bytes)), .obj true z1 0 (.dat T_api_Right_rep) r_0, .vec z18α (Rep.str) z20, .gone]) (by first | exact hB z22α S false e9 | (have q := hB z22α S false e9; simp only [cond_true, cond_false] at q; exact q)) ?_
    refine o_llen Tryd.underlying36 rfl rfl guard_none (look_d rfl rfl (pr hp 0 rfl rfl)) (fun _ => rfl) ?_
    apply h_endA (α := z22α) z22α
    · exact (.same (.same (.same (.same (.same (.same (.same (.same (.same (.same .nil))))))))))
    · exact rfl
    · exact rfl
    · exact rfl
    · exact hB z22α (fun k => S k || Nat.beq k 3) false (or_f e9 rfl)
  · intro z22α S hc hk hp
    have e9 : S 9 = false := (not_yet (j := 9) (q := 1) hc hk rfl rfl rfl rfl)
    refine eq_H (H' := [.obj true z3 0 (.dat (Rep.isvi (List Bytes) z18α)) z20, .vec (Value.slice none 0 0) (Rep.str) ([] : (List Bytes)), .obj true z1 0 (.dat T_api_Right_rep) r_0, .vec z18α (Rep.str) z20, .gone]) (by first | exact hB z22α S false e9 | (have q := hB z22α S false e9; simp only [cond_true, cond_false] at q; exact q)) ?_
    refine o_gtr rfl rfl guard_none (look_d rfl rfl (pr hp 0 rfl rfl)) (look_int rfl) (fun _ => rfl) (fun _ => rfl) ?_
    apply h_endA (α := z22α) z22α
    · exact (.same (.same (.same (.same (.same (.same (.same (.same (.same (.same .nil))))))))))
    · exact rfl
    · exact rfl
    · exact rfl
    · exact hB z22α (fun k => S k || Nat.beq k 4) false (or_f e9 rfl)
  · intro z22α S hc hk hp
    have e9 : S 9 = false := (not_yet (j := 9) (q := 2) hc (not_yet (j := 8) (q := 0) hc (not_yet (j := 7) (q := 0) hc (not_yet (j := 6) (q := 0) hc hk rfl rfl rfl rfl) rfl rfl rfl rfl) rfl rfl rfl rfl) rfl rfl rfl rfl)
    refine eq_H (H' := [.obj true z3 0 (.dat (Rep.isvi (List Bytes) z18α)) z20, .vec (Value.slice none 0 0) (Rep.str) ([] : (List Bytes)), .obj true z1 0 (.dat T_api_Right_rep) r_0, .vec z18α (Rep.str) z20, .gone]) (by first | exact hB z22α S false e9 | (have q := hB z22α S false e9; simp only [cond_true, cond_false] at q; exact q)) ?_
    refine o_faddr field39_5 type36 (by decide) rfl rfl guard_none (look_o rfl rfl) (fun _ => rfl) ?_
    apply h_endA (α := z22α) z22α
    · exact (.same (.same (.same (.same (.same (.same (.same (.same (.same (.same .nil))))))))))
    · exact rfl
    · exact rfl
    · exact rfl
    · exact hB z22α (fun k => S k || Nat.beq k 5) false (or_f e9 rfl)
  · intro z22α S hc hk hp
    have e9 : S 9 = false := (not_yet (j := 9) (q := 2) hc (not_yet (j := 8) (q := 0) hc (not_yet (j := 7) (q := 0) hc hk rfl rfl rfl rfl) rfl rfl rfl rfl) rfl rfl rfl rfl)
    refine eq_H (H' := [.obj true z3 0 (.dat (Rep.isvi (List Bytes) z18α)) z20, .vec (Value.slice none 0 0) (Rep.str) ([] : (List Bytes)), .obj true z1 0 (.dat T_api_Right_rep) r_0, .vec z18α (Rep.str) z20, .gone]) (by first | exact hB z22α S false e9 | (have q := hB z22α S false e9; simp only [cond_true, cond_false] at q; exact q)) ?_
    refine o_oloadi 2 rfl type36 T_api_Right_foc5 rfl guard_none (look_d rfl rfl (pr hp 0 rfl rfl)) (fun _ => rfl) ?_
    apply h_endA (α := z22α) z22α
    · exact (.same (.same (.same (.same (.same (.same (.same (.same (.same (.same .nil))))))))))
    · exact rfl
    · exact rfl
    · exact rfl
    · exact hB z22α (fun k => S k || Nat.beq k 6) false (or_f e9 rfl)
  · intro z22α S hc hk hp
    have e9 : S 9 = false := (not_yet (j := 9) (q := 2) hc (not_yet (j := 8) (q := 0) hc hk rfl rfl rfl rfl) rfl rfl rfl rfl)
    refine eq_H (H' := [.obj true z3 0 (.dat (Rep.isvi (List Bytes) z18α)) z20, .vec (Value.slice none 0 0) (Rep.str) ([] : (List Bytes)), .obj true z1 0 (.dat T_api_Right_rep) r_0, .vec z18α (Rep.str) z20, .gone]) (by first | exact hB z22α S false e9 | (have q := hB z22α S false e9; simp only [cond_true, cond_false] at q; exact q)) ?_
    refine o_llen Tryd.underlying36 rfl rfl guard_none (look_d rfl rfl (pr hp 0 rfl rfl)) (fun _ => rfl) ?_
    apply h_endA (α := z22α) z22α
    · exact (.same (.same (.same (.same (.same (.same (.same (.same (.same (.same .nil))))))))))
    · exact rfl
    · exact rfl
    · exact rfl
    · exact hB z22α (fun k => S k || Nat.beq k 7) false (or_f e9 rfl)
  · intro z22α S hc hk hp
    have e9 : S 9 = false := (not_yet (j := 9) (q := 2) hc hk rfl rfl rfl rfl)
    refine eq_H (H' := [.obj true z3 0 (.dat (Rep.isvi (List Bytes) z18α)) z20, .vec (Value.slice none 0 0) (Rep.str) ([] : (List Bytes)), .obj true z1 0 (.dat T_api_Right_rep) r_0, .vec z18α (Rep.str) z20, .gone]) (by first | exact hB z22α S false e9 | (have q := hB z22α S false e9; simp only [cond_true, cond_false] at q; exact q)) ?_
    refine o_from (bind_eqO h_z23) ?_
    refine o_call rfl rfl rfl callable17 (looks_cons (look_d rfl rfl (pr hp 0 rfl rfl)) (fun _ => rfl) (looks_nil)) (outline_decimal_ok _) (o_eqO ?_)
    apply h_endA (α := z22α) z22α
    · exact (.same (.same (.same (.same (.same (.same (.same (.same (.same (.same .nil))))))))))
    · exact rfl
    · exact rfl
    · exact rfl
    · exact hB z22α (fun k => S k || Nat.beq k 8) false (or_f e9 rfl)
  · intro z22α S hc hk hp
    refine eq_H (H' := [.obj true z3 0 (.dat (Rep.isvi (List Bytes) z18α)) z20, .vec (Value.slice none 0 0) (Rep.str) ([] : (List Bytes)), .obj true z1 0 (.dat T_api_Right_rep) r_0, .vec z18α (Rep.str) z20, .gone]) (by first | exact hB z22α S false hk | (have q := hB z22α S false hk; simp only [cond_true, cond_false] at q; exact q)) ?_
    refine o_from (bind_eqO h_z24) ?_
    refine o_weak (H' := [.vec z18α (Rep.str) z20, .obj true z3 0 (.dat (Rep.isvi (List Bytes) z18α)) z20] ++ ([] ++ [.vec (Value.slice none 0 0) (Rep.str) ([] : (List Bytes)), .obj true z1 0 (.dat T_api_Right_rep) r_0, .gone])) (sub_pick [3, 0, 1, 2, 4] rfl rfl) ?_
    refine o_callUE (enters_clo rfl (look_d rfl rfl (pr hp 0 rfl rfl)) (fun _ => rfl) rfl callable30 (looks_cons (look_str (l := [97, 102, 116, 101, 114]) rfl (by decide)) (fun _ => rfl) (looks_cons (look_d rfl rfl (pr hp 1 rfl rfl)) (fun _ => rfl) (looks_cons (look_d rfl rfl (pr hp 2 rfl rfl)) (fun _ => rfl) (looks_nil))))) rfl rfl rfl .nil (outline_Right_1_v0_ok _ _ _ ([97, 102, 116, 101, 114] : Bytes) (decide (0 < (r_0.After.length : Int))) z23 z20) (fun _ _ => (wr_v (wr_c wr_n))) (fun z25α => o_eqOH ?_)
    refine o_weak (H' := [.vec z25α (Rep.str) z24, .obj true z3 0 (.dat (Rep.isvi (List Bytes) z25α)) z24, .vec (Value.slice none 0 0) (Rep.str) ([] : (List Bytes)), .obj true z1 0 (.dat T_api_Right_rep) r_0, .gone]) (sub_pick [0, 1, 2, 3, 4] rfl rfl) ?_
    refine o_weak sub_gone ?_
    refine o_weak (H' := [.obj true z3 0 (.dat (Rep.isvi (List Bytes) z25α)) z24, .vec (Value.slice none 0 0) (Rep.str) ([] : (List Bytes)), .obj true z1 0 (.dat T_api_Right_rep) r_0, .gone, .vec z25α (Rep.str) z24]) (sub_pick [2, 3, 4, 0, 1] rfl rfl) ?_
    apply h_endA (α := z22α) z25α
    · exact (.same (.same (.same (.same (.same (.same (.same (.same (.same (.same .nil))))))))))
    · exact rfl
    · exact rfl
    · exact rfl
    · exact hB z25α (fun k => S k || Nat.beq k 9) true (or_i rfl)
  refine den_weak (H' := [.obj true z3 0 (.dat (Rep.isvi (List Bytes) z22α)) z24, .vec (Value.slice none 0 0) (Rep.str) ([] : (List Bytes)), .obj true z1 0 (.dat T_api_Right_rep) r_0, .vec z22α (Rep.str) z24]) (sub_pick [0, 1, 2, 4] rfl rfl) ?_
  refine den_seq ?_
  refine den_open (fun z27 h_z27 => ?_)
  refine den_open (fun z28 h_z28 => ?_)
  have hB : ∀ (z26α : Value) (S : Nat → Bool) (b9 : Bool), S 9 = b9 → (([(cond (S 9) (.obj true z3 0 (.dat (Rep.isvi (List Bytes) z26α)) z28) (.obj true z3 0 (.dat (Rep.isvi (List Bytes) z22α)) z24)), .vec (Value.slice none 0 0) (Rep.str) ([] : (List Bytes)), .obj true z1 0 (.dat T_api_Right_rep) r_0, (cond (S 9) (.gone) (.vec z22α (Rep.str) z24)), (cond (S 9) (.vec (z26α) (Rep.str) z28) (.gone))] : List Go.Eng.Item)) = ([(cond b9 (.obj true z3 0 (.dat (Rep.isvi (List Bytes) z26α)) z28) (.obj true z3 0 (.dat (Rep.isvi (List Bytes) z22α)) z24)), .vec (Value.slice none 0 0) (Rep.str) ([] : (List Bytes)), .obj true z1 0 (.dat T_api_Right_rep) r_0, (cond b9 (.gone) (.vec z22α (Rep.str) z24)), (cond b9 (.vec (z26α) (Rep.str) z28) (.gone))] : List Go.Eng.Item) := fun z26α S b9 h9 => by subst h9; rfl
  refine den_weak sub_gone ?_
  refine den_weak (sub_pick (H' := [.obj true z3 0 (.dat (Rep.isvi (List Bytes) z22α)) z24, .vec (Value.slice none 0 0) (Rep.str) ([] : (List Bytes)), .obj true z1 0 (.dat T_api_Right_rep) r_0, .vec z22α (Rep.str) z24, .gone]) [1, 2, 3, 4, 0] rfl rfl) ?_
  refine den_drawA (A := Value) (H' := fun z26α => [.obj true z3 0 (.dat (Rep.isvi (List Bytes) z26α)) z28, .vec (Value.slice none 0 0) (Rep.str) ([] : (List Bytes)), .obj true z1 0 (.dat T_api_Right_rep) r_0, .gone, .vec (z26α) (Rep.str) z28]) (fun z26α => [(55, ⟨(Rep.clo 30 [⟨Rep.addr, (z3, 0), true⟩]), (), true⟩), (56, ⟨Rep.addr, (z1, 0 + 16), true⟩), (57, ⟨(T_api_Duty_rep).slice, r_0.Duties, true⟩), (58, ⟨Rep.int .i64, (r_0.Duties.length : Int), true⟩), (59, ⟨Rep.bool, decide (0 < (r_0.Duties.length : Int)), true⟩), (60, ⟨Rep.addr, (z1, 0 + 16), true⟩), (61, ⟨(T_api_Duty_rep).slice, r_0.Duties, true⟩), (62, ⟨Rep.int .i64, (r_0.Duties.length : Int), true⟩), (63, ⟨Rep.str, z27, true⟩), (64, ⟨Rep.unit, (), true⟩)]) (fun z26α S => [(cond (S 9) (.obj true z3 0 (.dat (Rep.isvi (List Bytes) z26α)) z28) (.obj true z3 0 (.dat (Rep.isvi (List Bytes) z22α)) z24)), .vec (Value.slice none 0 0) (Rep.str) ([] : (List Bytes)), .obj true z1 0 (.dat T_api_Right_rep) r_0, (cond (S 9) (.gone) (.vec z22α (Rep.str) z24)), (cond (S 9) (.vec (z26α) (Rep.str) z28) (.gone))]) (Value.slice none 0 0) mixed (fun _ => rfl) rfl rfl (fun z26α S hS => hB z26α S true (hS 9 (by decide))) ⟨?_, ?_, ?_, ?_, ?_, ?_, ?_, ?_, ?_, ?_, trivial⟩ (fun z26α => ?_)
  · intro z26α S hc hk hp
    have e9 : S 9 = false := (not_yet (j := 9) (q := 0) hc hk rfl rfl rfl rfl)
    refine eq_H (H' := [.obj true z3 0 (.dat (Rep.isvi (List Bytes) z22α)) z24, .vec (Value.slice none 0 0) (Rep.str) ([] : (List Bytes)), .obj true z1 0 (.dat T_api_Right_rep) r_0, .vec z22α (Rep.str) z24, .gone]) (by first | exact hB z26α S false e9 | (have q := hB z26α S false e9; simp only [cond_true, cond_false] at q; exact q)) ?_
    refine o_move rfl rfl guard_none (look_o rfl rfl) (fun _ => rfl) ?_
    apply h_endA (α := z26α) z26α
    · exact (.same (.same (.same (.same (.same (.same (.same (.same (.same (.same .nil))))))))))
    · exact rfl
    · exact rfl
    · exact rfl
    · exact hB z26α (fun k => S k || Nat.beq k 0) false (or_f e9 rfl)
  · intro z26α S hc hk hp
    have e9 : S 9 = false := (not_yet (j := 9) (q := 1) hc (not_yet (j := 4) (q := 0) hc (not_yet (j := 3) (q := 0) hc (not_yet (j := 2) (q := 0) hc hk rfl rfl rfl rfl) rfl rfl rfl rfl) rfl rfl rfl rfl) rfl rfl rfl rfl)
    refine eq_H (H' := [.obj true z3 0 (.dat (Rep.isvi (List Bytes) z22α)) z24, .vec (Value.slice none 0 0) (Rep.str) ([] : (List Bytes)), .obj true z1 0 (.dat T_api_Right_rep) r_0, .vec z22α (Rep.str) z24, .gone]) (by first | exact hB z26α S false e9 | (have q := hB z26α S false e9; simp only [cond_true, cond_false] at q; exact q)) ?_
    refine o_faddr field39_6 type37 (by decide) rfl rfl guard_none (look_o rfl rfl) (fun _ => rfl) ?_
    apply h_endA (α := z26α) z26α
    · exact (.same (.same (.same (.same (.same (.same (.same (.same (.same (.same .nil))))))))))
    · exact rfl
    · exact rfl
    · exact rfl
    · exact hB z26α (fun k => S k || Nat.beq k 1) false (or_f e9 rfl)
  · intro z26α S hc hk hp
    have e9 : S 9 = false := (not_yet (j := 9) (q := 1) hc (not_yet (j := 4) (q := 0) hc (not_yet (j := 3) (q := 0) hc hk rfl rfl rfl rfl) rfl rfl rfl rfl) rfl rfl rfl rfl)
    refine eq_H (H' := [.obj true z3 0 (.dat (Rep.isvi (List Bytes) z22α)) z24, .vec (Value.slice none 0 0) (Rep.str) ([] : (List Bytes)), .obj true z1 0 (.dat T_api_Right_rep) r_0, .vec z22α (Rep.str) z24, .gone]) (by first | exact hB z26α S false e9 | (have q := hB z26α S false e9; simp only [cond_true, cond_false] at q; exact q)) ?_
    refine o_oloadi 2 rfl type37 T_api_Right_foc6 rfl guard_none (look_d rfl rfl (pr hp 0 rfl rfl)) (fun _ => rfl) ?_
    apply h_endA (α := z26α) z26α
    · exact (.same (.same (.same (.same (.same (.same (.same (.same (.same (.same .nil))))))))))
    · exact rfl
    · exact rfl
    · exact rfl
    · exact hB z26α (fun k => S k || Nat.beq k 2) false (or_f e9 rfl)
  · intro z26α S hc hk hp
    have e9 : S 9 = false := (not_yet (j := 9) (q := 1) hc (not_yet (j := 4) (q := 0) hc hk rfl rfl rfl rfl) rfl rfl rfl rfl)
    refine eq_H (H' := [.obj true z3 0 (.dat (Rep.isvi (List Bytes) z22α)) z24, .vec (Value.slice none 0 0) (Rep.str) ([] : (List Bytes)), .obj true z1 0 (.dat T_api_Right_rep) r_0, .vec z22α (Rep.str) z24, .gone]) (by first | exact hB z26α S false e9 | (have q := hB z26α S false e9; simp only [cond_true, cond_false] at q; exact q)) ?_
    refine o_llen Tryd.underlying37 rfl rfl guard_none (look_d rfl rfl (pr hp 0 rfl rfl)) (fun _ => rfl) ?_
    apply h_endA (α := z26α) z26α
    · exact (.same (.same (.same (.same (.same (.same (.same (.same (.same (.same .nil))))))))))
    · exact rfl
    · exact rfl
    · exact rfl
    · exact hB z26α (fun k => S k || Nat.beq k 3) false (or_f e9 rfl)
  · intro z26α S hc hk hp
    have e9 : S 9 = false := (not_yet (j := 9) (q := 1) hc hk rfl rfl rfl rfl)
    refine eq_H (H' := [.obj true z3 0 (.dat (Rep.isvi (List Bytes) z22α)) z24, .vec (Value.slice none 0 0) (Rep.str) ([] : (List Bytes)), .obj true z1 0 (.dat T_api_Right_rep) r_0, .vec z22α (Rep.str) z24, .gone]) (by first | exact hB z26α S false e9 | (have q := hB z26α S false e9; simp only [cond_true, cond_false] at q; exact q)) ?_
    refine o_gtr rfl rfl guard_none (look_d rfl rfl (pr hp 0 rfl rfl)) (look_int rfl) (fun _ => rfl) (fun _ => rfl) ?_
    apply h_endA (α := z26α) z26α
    · exact (.same (.same (.same (.same (.same (.same (.same (.same (.same (.same .nil))))))))))
    · exact rfl
    · exact rfl
    · exact rfl
    · exact hB z26α (fun k => S k || Nat.beq k 4) false (or_f e9 rfl)
  · intro z26α S hc hk hp
    have e9 : S 9 = false := (not_yet (j := 9) (q := 2) hc (not_yet (j := 8) (q := 0) hc (not_yet (j := 7) (q := 0) hc (not_yet (j := 6) (q := 0) hc hk rfl rfl rfl rfl) rfl rfl rfl rfl) rfl rfl rfl rfl) rfl rfl rfl rfl)
    refine eq_H (H' := [.obj true z3 0 (.dat (Rep.isvi (List Bytes) z22α)) z24, .vec (Value.slice none 0 0) (Rep.str) ([] : (List Bytes)), .obj true z1 0 (.dat T_api_Right_rep) r_0, .vec z22α (Rep.str) z24, .gone]) (by first | exact hB z26α S false e9 | (have q := hB z26α S false e9; simp only [cond_true, cond_false] at q; exact q)) ?_
    refine o_faddr field39_6 type37 (by decide) rfl rfl guard_none (look_o rfl rfl) (fun _ => rfl) ?_
    apply h_endA (α := z26α) z26α
    · exact (.same (.same (.same (.same (.same (.same (.same (.same (.same (.same .nil))))))))))
    · exact rfl
    · exact rfl
    · exact rfl
    · exact hB z26α (fun k => S k || Nat.beq k 5) false (or_f e9 rfl)
  · intro z26α S hc hk hp
    have e9 : S 9 = false := (not_yet (j := 9) (q := 2) hc (not_yet (j := 8) (q := 0) hc (not_yet (j := 7) (q := 0) hc hk rfl rfl rfl rfl) rfl rfl rfl rfl) rfl rfl rfl rfl)
    refine eq_H (H' := [.obj true z3 0 (.dat (Rep.isvi (List Bytes) z22α)) z24, .vec (Value.slice none 0 0) (Rep.str) ([] : (List Bytes)), .obj true z1 0 (.dat T_api_Right_rep) r_0, .vec z22α (Rep.str) z24, .gone]) (by first | exact hB z26α S false e9 | (have q := hB z26α S false e9; simp only [cond_true, cond_false] at q; exact q)) ?_
    refine o_oloadi 2 rfl type37 T_api_Right_foc6 rfl guard_none (look_d rfl rfl (pr hp 0 rfl rfl)) (fun _ => rfl) ?_
    apply h_endA (α := z26α) z26α
    · exact (.same (.same (.same (.same (.same (.same (.same (.same (.same (.same .nil))))))))))
    · exact rfl
    · exact rfl
    · exact rfl
    · exact hB z26α (fun k => S k || Nat.beq k 6) false (or_f e9 rfl)
  · intro z26α S hc hk hp
    have e9 : S 9 = false := (not_yet (j := 9) (q := 2) hc (not_yet (j := 8) (q := 0) hc hk rfl rfl rfl rfl) rfl rfl rfl rfl)
    refine eq_H (H' := [.obj true z3 0 (.dat (Rep.isvi (List Bytes) z22α)) z24, .vec (Value.slice none 0 0) (Rep.str) ([] : (List Bytes)), .obj true z1 0 (.dat T_api_Right_rep) r_0, .vec z22α (Rep.str) z24, .gone]) (by first | exact hB z26α S false e9 | (have q := hB z26α S false e9; simp only [cond_true, cond_false] at q; exact q)) ?_
    refine o_llen Tryd.underlying37 rfl rfl guard_none (look_d rfl rfl (pr hp 0 rfl rfl)) (fun _ => rfl) ?_
    apply h_endA (α := z26α) z26α
    · exact (.same (.same (.same (.same (.same (.same (.same (.same (.same (.same .nil))))))))))
    · exact rfl
    · exact rfl
    · exact rfl
    · exact hB z26α (fun k => S k || Nat.beq k 7) false (or_f e9 rfl)
  · intro z26α S hc hk hp
    have e9 : S 9 = false := (not_yet (j := 9) (q := 2) hc hk rfl rfl rfl rfl)
    refine eq_H (H' := [.obj true z3 0 (.dat (Rep.isvi (List Bytes) z22α)) z24, .vec (Value.slice none 0 0) (Rep.str) ([] : (List Bytes)), .obj true z1 0 (.dat T_api_Right_rep) r_0, .vec z22α (Rep.str) z24, .gone]) (by first | exact hB z26α S false e9 | (have q := hB z26α S false e9; simp only [cond_true, cond_false] at q; exact q)) ?_
    refine o_from (bind_eqO h_z27) ?_
    refine o_call rfl rfl rfl callable17 (looks_cons (look_d rfl rfl (pr hp 0 rfl rfl)) (fun _ => rfl) (looks_nil)) (outline_decimal_ok _) (o_eqO ?_)
    apply h_endA (α := z26α) z26α
    · exact (.same (.same (.same (.same (.same (.same (.same (.same (.same (.same .nil))))))))))
    · exact rfl
    · exact rfl
    · exact rfl
    · exact hB z26α (fun k => S k || Nat.beq k 8) false (or_f e9 rfl)
  · intro z26α S hc hk hp
    refine eq_H (H' := [.obj true z3 0 (.dat (Rep.isvi (List Bytes) z22α)) z24, .vec (Value.slice none 0 0) (Rep.str) ([] : (List Bytes)), .obj true z1 0 (.dat T_api_Right_rep) r_0, .vec z22α (Rep.str) z24, .gone]) (by first | exact hB z26α S false hk | (have q := hB z26α S false hk; simp only [cond_true, cond_false] at q; exact q)) ?_
    refine o_from (bind_eqO h_z28) ?_
    refine o_weak (H' := [.vec z22α (Rep.str) z24, .obj true z3 0 (.dat (Rep.isvi (List Bytes) z22α)) z24] ++ ([] ++ [.vec (Value.slice none 0 0) (Rep.str) ([] : (List Bytes)), .obj true z1 0 (.dat T_api_Right_rep) r_0, .gone])) (sub_pick [3, 0, 1, 2, 4] rfl rfl) ?_
    refine o_callUE (enters_clo rfl (look_d rfl rfl (pr hp 0 rfl rfl)) (fun _ => rfl) rfl callable30 (looks_cons (look_str (l := [100, 117, 116, 105, 101, 115]) rfl (by decide)) (fun _ => rfl) (looks_cons (look_d rfl rfl (pr hp 1 rfl rfl)) (fun _ => rfl) (looks_cons (look_d rfl rfl (pr hp 2 rfl rfl)) (fun _ => rfl) (looks_nil))))) rfl rfl rfl .nil (outline_Right_1_v0_ok _ _ _ ([100, 117, 116, 105, 101, 115] : Bytes) (decide (0 < (r_0.Duties.length : Int))) z27 z24) (fun _ _ => (wr_v (wr_c wr_n))) (fun z29α => o_eqOH ?_)
    refine o_weak (H' := [.vec z29α (Rep.str) z28, .obj true z3 0 (.dat (Rep.isvi (List Bytes) z29α)) z28, .vec (Value.slice none 0 0) (Rep.str) ([] : (List Bytes)), .obj true z1 0 (.dat T_api_Right_rep) r_0, .gone]) (sub_pick [0, 1, 2, 3, 4] rfl rfl) ?_
    refine o_weak sub_gone ?_
    refine o_weak (H' := [.obj true z3 0 (.dat (Rep.isvi (List Bytes) z29α)) z28, .vec (Value.slice none 0 0) (Rep.str) ([] : (List Bytes)), .obj true z1 0 (.dat T_api_Right_rep) r_0, .gone, .vec z29α (Rep.str) z28]) (sub_pick [2, 3, 4, 0, 1] rfl rfl) ?_
    apply h_endA (α := z26α) z29α
    · exact (.same (.same (.same (.same (.same (.same (.same (.same (.same (.same .nil))))))))))
    · exact rfl
    · exact rfl
    · exact rfl
    · exact hB z29α (fun k => S k || Nat.beq k 9) true (or_i rfl)
  refine den_weak (H' := [.obj true z3 0 (.dat (Rep.isvi (List Bytes) z26α)) z28, .vec (Value.slice none 0 0) (Rep.str) ([] : (List Bytes)), .obj true z1 0 (.dat T_api_Right_rep) r_0, .vec z26α (Rep.str) z28]) (sub_pick [0, 1, 2, 4] rfl rfl) ?_
  refine den_seq ?_
  refine den_region rfl ?_
  refine o_oloadi 0 rfl (typeisv41 z26α) foc_isvi rfl guard_none (look_tmp rfl) (fun _ => rfl) ?_
  refine o_asv ?_
  refine o_assign rfl rfl guard_none (look_tmp rfl) (fun _ => rfl) ?_
  refine o_end ?_
  refine den_code_ret ?_
  exact dene_resI z26α (res1 rfl (rv_tmp rfl)) (fun _ _ _ k => ato_pick [3] rfl rfl k)

theorem law37_alive_ok (fuel : Nat)   : FunOkI Tryd.prog 5 [] [.obj false 0 0 (gfact 0 (Rep.arr 6 (Rep.str)) glob0) ()] (law37_alive fuel) (Rep.bool) (fun (α : Unit) (y : Bool) => y) (fun α y => []) := by
  refine fun_okI Tryd.func5 rfl Tryd.ntmps5 rfl all_nil (fun w0 ok0 M => ?_)
  refine den_seq ?_
  refine den_region rfl ?_
  refine o_assign rfl rfl guard_none look_bool (fun _ => rfl) ?_
  refine o_end ?_
  refine den_seq ?_
  refine den_region rfl ?_
  refine o_build (R := T_api_Verdict_rep0) (f := T_api_Verdict_tup) (y := (⟨3, 1, 0⟩ : T_api_Verdict)) shape27 rfl rfl rfl rfl guard_none (bld_part rfl rfl (look_int rfl) (fun _ => rfl) (bld_part rfl rfl (look_int rfl) (fun _ => rfl) (bld_zero (z_int rfl) (bld_nil)))) ?_
  refine o_buildE (R := T_api_Expr_rep0 T_api_Expr_rep) (f := T_api_Expr_tup) (y := (⟨2, [], 1, 0, 0, []⟩ : T_api_Expr)) T_api_Expr_eq shape35 rfl rfl rfl rfl guard_none (bld_part rfl rfl (look_int rfl) (fun _ => rfl) (bld_zero (z_str rfl) (bld_part rfl rfl (look_int rfl) (fun _ => rfl) (bld_zero (z_int rfl) (bld_zero (z_int rfl) (bld_zero (z_slice rfl) (bld_nil))))))) ?_
  refine o_alloc zero27 rfl rfl (fun z1 => ?_)
  refine o_alloc zero35 rfl rfl (fun z2 => ?_)
  refine o_weak (H' := [.obj true z1 0 (.dat T_api_Verdict_rep) T_api_Verdict_zero, .obj true z2 0 (.dat T_api_Expr_rep) T_api_Expr_zero, .obj false 0 0 (gfact 0 (Rep.arr 6 (Rep.str)) glob0) ()]) (sub_pick [1, 0, 2] rfl rfl) ?_
  refine o_ostore type27 foc_self guard_none (look_tmp rfl) (fun _ => rfl) (look_tmp rfl) (fun _ => rfl) ?_
  refine o_weak (H' := [.obj true z2 0 (.dat T_api_Expr_rep) T_api_Expr_zero, .obj true z1 0 (.dat T_api_Verdict_rep) (⟨3, 1, 0⟩ : T_api_Verdict), .obj false 0 0 (gfact 0 (Rep.arr 6 (Rep.str)) glob0) ()]) (sub_pick [1, 0, 2] rfl rfl) ?_
  refine o_ostore type35 foc_self guard_none (look_tmp rfl) (fun _ => rfl) (look_tmp rfl) (fun _ => rfl) ?_
  refine o_end ?_
  refine den_seq ?_
  refine den_region rfl ?_
  refine o_oloadi 1 rfl type27 foc_self rfl guard_none (look_tmp rfl) (fun _ => rfl) ?_
  refine o_weak (H' := [] ++ ([.obj false 0 0 (gfact 0 (Rep.arr 6 (Rep.str)) glob0) ()] ++ [.obj true z2 0 (.dat T_api_Expr_rep) (⟨2, [], 1, 0, 0, []⟩ : T_api_Expr), .obj true z1 0 (.dat T_api_Verdict_rep) (⟨3, 1, 0⟩ : T_api_Verdict)])) (sub_pick [2, 0, 1] rfl rfl) ?_
  refine o_callU rfl rfl rfl rfl rfl callable8 (looks_cons (look_tmp rfl) (fun _ => rfl) (looks_nil)) (.cons .nil) (outline_Verdict_ok (⟨3, 1, 0⟩ : T_api_Verdict)) (fun _ _ => wr_n) (fun z4α z3 => ?_)
  refine o_weak (H' := [.obj false 0 0 (gfact 0 (Rep.arr 6 (Rep.str)) glob0) (), .obj true z2 0 (.dat T_api_Expr_rep) (⟨2, [], 1, 0, 0, []⟩ : T_api_Expr), .obj true z1 0 (.dat T_api_Verdict_rep) (⟨3, 1, 0⟩ : T_api_Verdict)]) (sub_pick [0, 1, 2] rfl rfl) ?_
  refine o_seql rfl rfl guard_none (look_tmp rfl) (look_str (l := [51, 32, 103, 114, 97, 110, 116]) rfl (by decide)) (fun _ => rfl) (fun _ => rfl) ?_
  refine o_move rfl rfl guard_none (look_tmp rfl) (fun _ => rfl) ?_
  refine o_oloadi 2 rfl type27 foc_self rfl (guard_some rfl rfl rfl) (look_tmp rfl) (fun _ => rfl) ?_
  refine o_bslice Tryd.underlying23 (info_i info27) (info_z info27) type27 rfl rfl rfl rfl rfl rfl (guard_some rfl rfl rfl) (looksL_cons (look_tmp rfl) (fun h => h) (looksL_nil)) ?_
  refine o_build (R := T_record_Record_rep0) (f := T_record_Record_tup) (y := (⟨0, ([(⟨3, 1, 0⟩ : T_api_Verdict)] : List T_api_Verdict)⟩ : T_record_Record)) shape25 rfl rfl rfl rfl (guard_some rfl rfl rfl) (bld_zero (z_int rfl) (bld_part rfl rfl (look_tmp rfl) (fun h => h) (bld_nil))) ?_
  refine o_weak (H' := [] ++ ([.obj false 0 0 (gfact 0 (Rep.arr 6 (Rep.str)) glob0) ()] ++ [.obj true z2 0 (.dat T_api_Expr_rep) (⟨2, [], 1, 0, 0, []⟩ : T_api_Expr), .obj true z1 0 (.dat T_api_Verdict_rep) (⟨3, 1, 0⟩ : T_api_Verdict)])) (sub_pick [0, 1, 2] rfl rfl) ?_
  refine o_callX (its := []) ([] : Bytes) () rfl rfl rfl rfl (guard_some rfl rfl rfl) callable9 (looks_cons (look_tmp rfl) (fun h => h) (looks_nil)) (.cons .nil) (outline_Record_ok (⟨0, ([(⟨3, 1, 0⟩ : T_api_Verdict)] : List T_api_Verdict)⟩ : T_record_Record)) (fun _ _ => wr_n) ?_ (fun z6α z5 => ?_)
  · exact fun _ => rfl
  refine o_weak (H' := [.obj false 0 0 (gfact 0 (Rep.arr 6 (Rep.str)) glob0) (), .obj true z2 0 (.dat T_api_Expr_rep) (⟨2, [], 1, 0, 0, []⟩ : T_api_Expr), .obj true z1 0 (.dat T_api_Verdict_rep) (⟨3, 1, 0⟩ : T_api_Verdict)]) (sub_pick [0, 1, 2] rfl rfl) ?_
  refine o_seql rfl rfl (guard_some rfl rfl rfl) (look_tmp rfl) (look_str (l := [48, 59, 32, 51, 32, 103, 114, 97, 110, 116]) rfl (by decide)) (fun h => h) (fun _ => rfl) ?_
  refine o_pick rfl rfl guard_none (look_tmp rfl) (look_tmp rfl) look_bool (fun _ => rfl) (fun h1 h2 => pick_t ((fun _ => rfl) h1) h2) (fun _ _ => rfl) ?_
  refine o_move rfl rfl guard_none (look_tmp rfl) (fun _ => rfl) ?_
  refine o_build (R := T_api_Value_rep0) (f := T_api_Value_tup) (y := (⟨1, (-4), [], []⟩ : T_api_Value)) shape50 rfl rfl rfl rfl (guard_some rfl rfl rfl) (bld_part rfl rfl (look_int rfl) (fun _ => rfl) (bld_part rfl rfl (look_int rfl) (fun _ => rfl) (bld_zero (z_str rfl) (bld_zero (z_slice rfl) (bld_nil))))) ?_
  refine o_callg rfl rfl rfl (guard_some rfl rfl rfl) callable16 (looks_cons (look_tmp rfl) (fun h => h) (looks_nil)) (outline_Value_ok _) (fun z7 => ?_)
  refine o_seql rfl rfl (guard_some rfl rfl rfl) (look_tmp rfl) (look_str (l := [45, 52]) rfl (by decide)) (fun h => h) (fun _ => rfl) ?_
  refine o_pick rfl rfl guard_none (look_tmp rfl) (look_tmp rfl) look_bool (fun _ => rfl) (fun h1 h2 => pick_t ((fun _ => rfl) h1) h2) (fun _ _ => rfl) ?_
  refine o_move rfl rfl guard_none (look_tmp rfl) (fun _ => rfl) ?_
  refine o_oloadi 1 rfl type35 foc_self rfl (guard_some rfl rfl rfl) (look_tmp rfl) (fun _ => rfl) ?_
  refine o_oloadi 1 rfl type35 foc_self rfl (guard_some rfl rfl rfl) (look_tmp rfl) (fun _ => rfl) ?_
  refine o_build (R := T_api_Duty_rep0) (f := T_api_Duty_tup) (y := (⟨[], [], [], 0, false⟩ : T_api_Duty)) shape52 rfl rfl rfl rfl (guard_some rfl rfl rfl) (bld_zero (z_str rfl) (bld_zero (z_str rfl) (bld_zero (z_str rfl) (bld_zero (z_int rfl) (bld_zero (z_bool rfl) (bld_nil)))))) ?_
  refine o_bslice Tryd.underlying37 (info_i info52) (info_z info52) type52 rfl rfl rfl rfl rfl rfl (guard_some rfl rfl rfl) (looksL_cons (look_tmp rfl) (fun h => h) (looksL_nil)) ?_
  refine o_build (R := T_api_Right_rep0) (f := T_api_Right_tup) (y := (⟨([114] : Bytes), (⟨2, [], 1, 0, 0, []⟩ : T_api_Expr), (⟨2, [], 1, 0, 0, []⟩ : T_api_Expr), [], [], [], ([(⟨[], [], [], 0, false⟩ : T_api_Duty)] : List T_api_Duty)⟩ : T_api_Right)) shape39 rfl rfl rfl rfl (guard_some rfl rfl rfl) (bld_part rfl rfl (look_str (l := [114]) rfl (by decide)) (fun _ => rfl) (bld_part rfl rfl (look_tmp rfl) (fun h => h) (bld_part rfl rfl (look_tmp rfl) (fun h => h) (bld_zero (z_slice rfl) (bld_zero (z_slice rfl) (bld_zero (z_slice rfl) (bld_part rfl rfl (look_tmp rfl) (fun h => h) (bld_nil)))))))) ?_
  refine o_weak (H' := [] ++ ([] ++ [.obj false 0 0 (gfact 0 (Rep.arr 6 (Rep.str)) glob0) (), .obj true z2 0 (.dat T_api_Expr_rep) (⟨2, [], 1, 0, 0, []⟩ : T_api_Expr), .obj true z1 0 (.dat T_api_Verdict_rep) (⟨3, 1, 0⟩ : T_api_Verdict)])) (sub_pick [0, 1, 2] rfl rfl) ?_
  refine o_callX (its := []) ([] : (List Bytes)) (Value.slice none 0 0) rfl rfl rfl rfl (guard_some rfl rfl rfl) callable15 (looks_cons (look_tmp rfl) (fun h => h) (looks_nil)) .nil (fun_frozen (outline_Right_ok fuel (⟨([114] : Bytes), (⟨2, [], 1, 0, 0, []⟩ : T_api_Expr), (⟨2, [], 1, 0, 0, []⟩ : T_api_Expr), [], [], [], ([(⟨[], [], [], 0, false⟩ : T_api_Duty)] : List T_api_Duty)⟩ : T_api_Right))) (fun _ _ => wr_n) ?_ (fun z9α z8 => ?_)
  · exact fun _ => rfl
  refine o_weak (H' := [.obj false 0 0 (gfact 0 (Rep.arr 6 (Rep.str)) glob0) (), .obj true z2 0 (.dat T_api_Expr_rep) (⟨2, [], 1, 0, 0, []⟩ : T_api_Expr), .obj true z1 0 (.dat T_api_Verdict_rep) (⟨3, 1, 0⟩ : T_api_Verdict)]) (sub_pick [0, 1, 2] rfl rfl) ?_
  refine o_llen Tryd.underlying41 rfl rfl (guard_some rfl rfl rfl) (look_tmp rfl) (fun h => h) ?_
  refine o_eql rfl rfl (guard_some rfl rfl rfl) (look_tmp rfl) (look_int rfl) (fun h => h) (fun _ => rfl) ?_
  refine o_pick rfl rfl guard_none (look_tmp rfl) (look_tmp rfl) look_bool (fun _ => rfl) (fun h1 h2 => pick_t ((fun _ => rfl) h1) h2) (fun _ _ => rfl) ?_
  refine o_assign rfl rfl guard_none (look_tmp rfl) (fun _ => rfl) ?_
  refine o_lt (fun z10 => ?_)
  refine o_end ?_
  refine den_code_ret ?_
  exact dene_resI () (res1 rfl (rv_tmp rfl)) (fun _ _ _ k => ato_pick [] rfl rfl k)

theorem ref07_Depth_rec_ok (fuel : Nat) (rec_ref07_Depth : T_api_Expr → Option Int) (hrec_ref07_Depth : ∀ (e_0 : T_api_Expr), FunOk Tryd.prog 21 [⟨T_api_Expr_rep, e_0, true⟩] (rec_ref07_Depth e_0) (Rep.int .i64))  (e_0 : T_api_Expr) : FunOk Tryd.prog 21 [⟨T_api_Expr_rep, e_0, true⟩] (ref07_Depth_rec fuel rec_ref07_Depth e_0) (Rep.int .i64) := by
  refine fun_ok Tryd.func21 rfl Tryd.ntmps21 rfl (all_cons rfl all_nil) (fun w0 ok0 => ?_)
  refine den_seq ?_
  refine den_region rfl ?_
  refine o_box rfl rfl (look_tmp rfl) rfl (fun z1 => ?_)
  refine o_assign rfl rfl guard_none (look_int rfl) (fun _ => rfl) ?_
  refine o_end ?_
  refine den_seq ?_
  refine den_seq ?_
  refine den_region rfl ?_
  refine o_faddr field35_0 type3 (by decide) rfl rfl guard_none (look_tmp rfl) (fun _ => rfl) ?_
  refine o_oloadi 0 rfl type3 T_api_Expr_foc0 rfl guard_none (look_tmp rfl) (fun _ => rfl) ?_
  refine o_eql rfl rfl guard_none (look_tmp rfl) (look_int rfl) (fun _ => rfl) (fun _ => rfl) ?_
  refine o_end ?_
  refine den_cond (look_tmp rfl) ?_ ?_
  · refine den_seq ?_
    refine den_region rfl ?_
    refine o_assign rfl rfl guard_none (look_int rfl) (fun _ => rfl) ?_
    refine o_end ?_
    refine den_code_ret ?_
    refine dene_ret ?_
    exact dene_res (res1 rfl (rv_tmp rfl))
  · refine den_skip ?_
    refine den_seq ?_
    refine den_region rfl ?_
    refine o_assign rfl rfl guard_none (look_int rfl) (fun _ => rfl) ?_
    refine o_end ?_
    refine den_seq ?_
    refine den_seq ?_
    refine den_region rfl ?_
    refine o_assign rfl rfl guard_none (look_int rfl) (fun _ => rfl) ?_
    refine o_end ?_
    refine den_bind (fun z2 => [(3, ⟨Rep.int .i64, z2, true⟩)]) (fun z2 => []) ?_ (fun z2 => ?_)
    · refine den_block ?_
      refine den_loop (ref07_Depth_L1b rec_ref07_Depth e_0) (fun z3 => [(3, ⟨Rep.int .i64, z3.1, true⟩), (4, ⟨Rep.int .i64, z3.2, true⟩), (1, ⟨Rep.addr, (z1, 0), true⟩)]) (fun z3 => [.obj true z1 0 (.dat T_api_Expr_rep) e_0]) (0, 0) (fun z3 => ?_) ((sub_env (sube_cons rfl (sube_cons rfl (sube_cons rfl (sube_nil))))))
      refine den_seq ?_
      refine den_seq ?_
      refine den_region rfl ?_
      refine o_move rfl rfl guard_none (look_tmp rfl) (fun _ => rfl) ?_
      refine o_faddr field35_5 type33 (by decide) rfl rfl guard_none (look_tmp rfl) (fun _ => rfl) ?_
      refine o_oloadi 0 rfl type33 T_api_Expr_foc5 rfl guard_none (look_tmp rfl) (fun _ => rfl) ?_
      refine o_llen Tryd.underlying33 rfl rfl guard_none (look_tmp rfl) (fun _ => rfl) ?_
      refine o_lss rfl rfl guard_none (look_tmp rfl) (look_tmp rfl) (fun _ => rfl) (fun _ => rfl) ?_
      refine o_end ?_
      refine den_cond (look_tmp rfl) ?_ ?_
      · refine den_skip ?_
        refine den_seq ?_
        refine den_block ?_
        refine den_seq ?_
        refine den_region rfl ?_
        refine o_faddr field35_5 type33 (by decide) rfl rfl guard_none (look_tmp rfl) (fun _ => rfl) ?_
        refine o_oloadi 0 rfl type33 T_api_Expr_foc5 rfl guard_none (look_tmp rfl) (fun _ => rfl) ?_
        refine o_move rfl rfl guard_none (look_tmp rfl) (fun _ => rfl) ?_
        refine o_iaddr Tryd.underlying33 type35 rfl rfl (look_tmp rfl) (look_tmp rfl) rfl rfl (fun z4 => ?_)
        refine o_load type35 rfl rfl guard_none (look_tmp rfl) (fun _ => rfl) ?_
        refine o_call rfl rfl rfl callable21 (looks_cons (look_tmp rfl) (fun _ => rfl) (looks_nil)) (hrec_ref07_Depth _) (fun z5 => ?_)
        refine o_assign rfl rfl guard_none (look_tmp rfl) (fun _ => rfl) ?_
        refine o_end ?_
        refine den_seq ?_
        refine den_region rfl ?_
        refine o_move rfl rfl guard_none (look_tmp rfl) (fun _ => rfl) ?_
        refine o_move rfl rfl guard_none (look_tmp rfl) (fun _ => rfl) ?_
        refine o_gtr rfl rfl guard_none (look_tmp rfl) (look_tmp rfl) (fun _ => rfl) (fun _ => rfl) ?_
        refine o_end ?_
        refine den_cond (look_tmp rfl) ?_ ?_
        · refine den_region rfl ?_
          refine o_move rfl rfl guard_none (look_tmp rfl) (fun _ => rfl) ?_
          refine o_assign rfl rfl guard_none (look_tmp rfl) (fun _ => rfl) ?_
          refine o_end ?_
          refine den_blkend ?_
          refine den_region rfl ?_
          refine o_move rfl rfl guard_none (look_tmp rfl) (fun _ => rfl) ?_
          refine o_add rfl rfl guard_none (look_tmp rfl) (look_int rfl) (fun _ => rfl) (fun _ => rfl) ?_
          refine o_assign rfl rfl guard_none (look_tmp rfl) (fun _ => rfl) ?_
          refine o_end ?_
          refine den_next ((sub_env (sube_cons rfl (sube_cons rfl (sube_cons rfl (sube_nil))))))
        · refine den_skip ?_
          refine den_blkend ?_
          refine den_region rfl ?_
          refine o_move rfl rfl guard_none (look_tmp rfl) (fun _ => rfl) ?_
          refine o_add rfl rfl guard_none (look_tmp rfl) (look_int rfl) (fun _ => rfl) (fun _ => rfl) ?_
          refine o_assign rfl rfl guard_none (look_tmp rfl) (fun _ => rfl) ?_
          refine o_end ?_
          refine den_next ((sub_env (sube_cons rfl (sube_cons rfl (sube_cons rfl (sube_nil))))))
      · refine den_code_exit ?_
        refine dene_out rfl ?_
        refine dene_loop (by simp) ?_
        refine dene_to rfl ?_
        refine den_end ((Sub.trans (sub_pick [] rfl rfl) (sub_env (sube_cons rfl (sube_nil)))))
    refine den_seq ?_
    refine den_region rfl ?_
    refine o_move rfl rfl guard_none (look_tmp rfl) (fun _ => rfl) ?_
    refine o_add rfl rfl guard_none (look_tmp rfl) (look_int rfl) (fun _ => rfl) (fun _ => rfl) ?_
    refine o_assign rfl rfl guard_none (look_tmp rfl) (fun _ => rfl) ?_
    refine o_end ?_
    refine den_code_ret ?_
    exact dene_res (res1 rfl (rv_tmp rfl))

theorem ref07_Depth_ok (N n : Nat) : ∀ (e_0 : T_api_Expr), FunOk Tryd.prog 21 [⟨T_api_Expr_rep, e_0, true⟩] (ref07_Depth N n e_0) (Rep.int .i64) := by
  induction n with
  | zero => intros; exact fun_none
  | succ n ih => exact ref07_Depth_rec_ok N _ ih

theorem ref07_All_rec_ok (fuel : Nat) (rec_ref07_All : T_api_Expr → Option (List T_api_Expr)) (hrec_ref07_All : ∀ (e_0 : T_api_Expr), FunOkI Tryd.prog 22 [⟨T_api_Expr_rep, e_0, true⟩] [] (rec_ref07_All e_0) (Rep.val1) (fun (α : Value) (y : (List T_api_Expr)) => α) (fun α y => [.vec α (T_api_Expr_rep) y]))  (e_0 : T_api_Expr) : FunOkI Tryd.prog 22 [⟨T_api_Expr_rep, e_0, true⟩] [] (ref07_All_rec fuel rec_ref07_All e_0) (Rep.val1) (fun (α : Value) (y : (List T_api_Expr)) => α) (fun α y => [.vec α (T_api_Expr_rep) y]) := by
  refine fun_okI Tryd.func22 rfl Tryd.ntmps22 rfl (all_cons rfl all_nil) (fun w0 ok0 M => ?_)
  refine den_seq ?_
  refine den_region rfl ?_
  refine o_box rfl rfl (look_tmp rfl) rfl (fun z1 => ?_)
  refine o_assign rfl rfl guard_none look_nil1 (fun _ => rfl) ?_
  refine o_end ?_
  refine den_seq ?_
  refine den_region rfl ?_
  refine o_oloadi 0 rfl type35 foc_self rfl guard_none (look_tmp rfl) (fun _ => rfl) ?_
  refine o_bvecn Tryd.underlying33 (info_i info35) (info_z info35) type35 rfl rfl rfl rfl rfl (looksL_cons (look_tmp rfl) (fun _ => rfl) (looksL_nil)) (fun z2 => ?_)
  refine o_assign rfl rfl guard_none (look_tmp rfl) (fun _ => rfl) ?_
  refine o_end ?_
  refine den_seq ?_
  refine den_seq ?_
  refine den_region rfl ?_
  refine o_faddr field35_0 type3 (by decide) rfl rfl guard_none (look_tmp rfl) (fun _ => rfl) ?_
  refine o_oloadi 1 rfl type3 T_api_Expr_foc0 rfl guard_none (look_tmp rfl) (fun _ => rfl) ?_
  refine o_eql rfl rfl guard_none (look_tmp rfl) (look_int rfl) (fun _ => rfl) (fun _ => rfl) ?_
  refine o_end ?_
  refine den_cond (look_tmp rfl) ?_ ?_
  · refine den_seq ?_
    refine den_region rfl ?_
    refine o_move rfl rfl guard_none (look_tmp rfl) (fun _ => rfl) ?_
    refine o_assign rfl rfl guard_none (look_tmp rfl) (fun _ => rfl) ?_
    refine o_end ?_
    refine den_code_ret ?_
    refine dene_ret ?_
    exact dene_resI z2 (res1 rfl (rv_tmp rfl)) (fun _ _ _ k => ato_pick [0] rfl rfl k)
  · refine den_skip ?_
    refine den_seq ?_
    refine den_seq ?_
    refine den_region rfl ?_
    refine o_assign rfl rfl guard_none (look_int rfl) (fun _ => rfl) ?_
    refine o_end ?_
    refine den_bindA (A := Value) (fun z3α z3 => [(3, ⟨Rep.val1, z3α, true⟩)]) (fun z3α z3 => [.vec z3α (T_api_Expr_rep) z3]) ?_ (fun z3α z3 => ?_)
    · refine den_block ?_
      refine den_loopA (A := Value) (ref07_All_L1b rec_ref07_All e_0) (fun z4α z4 => [(4, ⟨Rep.int .i64, z4.1, true⟩), (1, ⟨Rep.addr, (z1, 0), true⟩), (3, ⟨Rep.val1, z4α, true⟩)]) (fun z4α z4 => [.obj true z1 0 (.dat T_api_Expr_rep) e_0, .vec z4α (T_api_Expr_rep) z4.2]) (0, ([e_0] : List T_api_Expr)) z2 (fun z4α z4 => ?_) ((Sub.trans (sub_pick [1, 0] rfl rfl) (sub_env (sube_cons rfl (sube_cons rfl (sube_cons rfl (sube_nil)))))))
      refine den_seq ?_
      refine den_seq ?_
      refine den_region rfl ?_
      refine o_move rfl rfl guard_none (look_tmp rfl) (fun _ => rfl) ?_
      refine o_faddr field35_5 type33 (by decide) rfl rfl guard_none (look_tmp rfl) (fun _ => rfl) ?_
      refine o_oloadi 0 rfl type33 T_api_Expr_foc5 rfl guard_none (look_tmp rfl) (fun _ => rfl) ?_
      refine o_llen Tryd.underlying33 rfl rfl guard_none (look_tmp rfl) (fun _ => rfl) ?_
      refine o_lss rfl rfl guard_none (look_tmp rfl) (look_tmp rfl) (fun _ => rfl) (fun _ => rfl) ?_
      refine o_end ?_
      refine den_cond (look_tmp rfl) ?_ ?_
      · refine den_skip ?_
        refine den_seq ?_
        refine den_block ?_
        refine den_region rfl ?_
        refine o_move rfl rfl guard_none (look_tmp rfl) (fun _ => rfl) ?_
        refine o_faddr field35_5 type33 (by decide) rfl rfl guard_none (look_tmp rfl) (fun _ => rfl) ?_
        refine o_oloadi 0 rfl type33 T_api_Expr_foc5 rfl guard_none (look_tmp rfl) (fun _ => rfl) ?_
        refine o_move rfl rfl guard_none (look_tmp rfl) (fun _ => rfl) ?_
        refine o_iaddr Tryd.underlying33 type35 rfl rfl (look_tmp rfl) (look_tmp rfl) rfl rfl (fun z5 => ?_)
        refine o_load type35 rfl rfl guard_none (look_tmp rfl) (fun _ => rfl) ?_
        refine o_weak (H' := [] ++ ([] ++ [.obj true z1 0 (.dat T_api_Expr_rep) e_0, .vec z4α (T_api_Expr_rep) z4.2])) (sub_pick [0, 1] rfl rfl) ?_
        refine o_callU rfl rfl rfl rfl rfl callable22 (looks_cons (look_tmp rfl) (fun _ => rfl) (looks_nil)) .nil (hrec_ref07_All z5) (fun _ _ => (wr_v wr_n)) (fun z7α z6 => ?_)
        refine o_weak (H' := [.vec z7α (T_api_Expr_rep) z6, .obj true z1 0 (.dat T_api_Expr_rep) e_0, .vec z4α (T_api_Expr_rep) z4.2]) (sub_pick [0, 1, 2] rfl rfl) ?_
        refine o_weak (sub_freeze (s := 24) rfl) ?_
        refine o_weak (H' := [.vec z4α (T_api_Expr_rep) z4.2, .obj true z1 0 (.dat T_api_Expr_rep) e_0]) (sub_pick [1, 0] rfl rfl) ?_
        refine o_append Tryd.underlying33 (info_i info35) (info_z info35) (info_all info35).2.1 rfl (info_all info35).2.2 rfl (look_tmp rfl) rfl (feeds_slice Tryd.underlying33 rfl (look_tmp rfl) rfl) (fun z10 z9 => ?_)
        refine o_assign rfl rfl guard_none (look_tmp rfl) (fun _ => rfl) ?_
        refine o_end ?_
        refine den_blkend ?_
        refine den_region rfl ?_
        refine o_move rfl rfl guard_none (look_tmp rfl) (fun _ => rfl) ?_
        refine o_add rfl rfl guard_none (look_tmp rfl) (look_int rfl) (fun _ => rfl) (fun _ => rfl) ?_
        refine o_assign rfl rfl guard_none (look_tmp rfl) (fun _ => rfl) ?_
        refine o_end ?_
        refine den_nextA z10 ((Sub.trans (sub_pick [1, 0] rfl rfl) (sub_env (sube_cons rfl (sube_cons rfl (sube_cons rfl (sube_nil)))))))
      · refine den_code_exit ?_
        refine dene_out rfl ?_
        refine dene_loopA (by simp) ?_
        refine dene_to rfl ?_
        refine den_endA z4α ((Sub.trans (sub_pick [1] rfl rfl) (sub_env (sube_cons rfl (sube_nil)))))
    refine den_seq ?_
    refine den_region rfl ?_
    refine o_move rfl rfl guard_none (look_tmp rfl) (fun _ => rfl) ?_
    refine o_assign rfl rfl guard_none (look_tmp rfl) (fun _ => rfl) ?_
    refine o_end ?_
    refine den_code_ret ?_
    exact dene_resI z3α (res1 rfl (rv_tmp rfl)) (fun _ _ _ k => ato_pick [0] rfl rfl k)

theorem ref07_All_ok (N n : Nat) : ∀ (e_0 : T_api_Expr), FunOkI Tryd.prog 22 [⟨T_api_Expr_rep, e_0, true⟩] [] (ref07_All N n e_0) (Rep.val1) (fun (α : Value) (y : (List T_api_Expr)) => α) (fun α y => [.vec α (T_api_Expr_rep) y]) := by
  induction n with
  | zero => intros; exact fun_noneI
  | succ n ih => exact ref07_All_rec_ok N _ ih

theorem ref07_Kids_ok  (kind_0 : Int) : FunOk Tryd.prog 23 [⟨Rep.int .i64, kind_0, true⟩] (ref07_Kids kind_0) (Rep.int .i64) := by
  refine fun_ok Tryd.func23 rfl Tryd.ntmps23 rfl (all_cons rfl all_nil) (fun w0 ok0 => ?_)
  refine den_seq ?_
  refine den_region rfl ?_
  refine o_assign rfl rfl guard_none (look_int rfl) (fun _ => rfl) ?_
  refine o_end ?_
  refine den_seq ?_
  refine den_seq ?_
  refine den_region rfl ?_
  refine o_move rfl rfl guard_none (look_tmp rfl) (fun _ => rfl) ?_
  refine o_lss rfl rfl guard_none (look_tmp rfl) (look_int rfl) (fun _ => rfl) (fun _ => rfl) ?_
  refine o_move rfl rfl guard_none (look_tmp rfl) (fun _ => rfl) ?_
  refine o_move rfl rfl (guard_some rfl rfl rfl) (look_tmp rfl) (fun _ => rfl) ?_
  refine o_gtr rfl rfl (guard_some rfl rfl rfl) (look_tmp rfl) (look_int rfl) (fun h => h) (fun _ => rfl) ?_
  refine o_pick rfl rfl guard_none (look_tmp rfl) look_bool (look_tmp rfl) (fun _ => rfl) (fun _ _ => rfl) (fun h1 h2 => pick_f ((fun _ => rfl) h1) h2) ?_
  refine o_end ?_
  refine den_cond (look_tmp rfl) ?_ ?_
  · refine den_seq ?_
    refine den_region rfl ?_
    refine o_assign rfl rfl guard_none (look_int rfl) (fun _ => rfl) ?_
    refine o_end ?_
    refine den_code_ret ?_
    refine dene_ret ?_
    exact dene_res (res1 rfl (rv_tmp rfl))
  · refine den_skip ?_
    refine den_seq ?_
    refine den_seq ?_
    refine den_region rfl ?_
    refine o_move rfl rfl guard_none (look_tmp rfl) (fun _ => rfl) ?_
    refine o_eql rfl rfl guard_none (look_tmp rfl) (look_int rfl) (fun _ => rfl) (fun _ => rfl) ?_
    refine o_end ?_
    refine den_cond (look_tmp rfl) ?_ ?_
    · refine den_seq ?_
      refine den_region rfl ?_
      refine o_assign rfl rfl guard_none (look_int rfl) (fun _ => rfl) ?_
      refine o_end ?_
      refine den_code_ret ?_
      refine dene_ret ?_
      exact dene_res (res1 rfl (rv_tmp rfl))
    · refine den_skip ?_
      refine den_seq ?_
      refine den_seq ?_
      refine den_region rfl ?_
      refine o_move rfl rfl guard_none (look_tmp rfl) (fun _ => rfl) ?_
      refine o_leq rfl rfl guard_none (look_tmp rfl) (look_int rfl) (fun _ => rfl) (fun _ => rfl) ?_
      refine o_move rfl rfl guard_none (look_tmp rfl) (fun _ => rfl) ?_
      refine o_move rfl rfl (guard_some rfl rfl rfl) (look_tmp rfl) (fun _ => rfl) ?_
      refine o_eql rfl rfl (guard_some rfl rfl rfl) (look_tmp rfl) (look_int rfl) (fun h => h) (fun _ => rfl) ?_
      refine o_pick rfl rfl guard_none (look_tmp rfl) look_bool (look_tmp rfl) (fun _ => rfl) (fun _ _ => rfl) (fun h1 h2 => pick_f ((fun _ => rfl) h1) h2) ?_
      refine o_move rfl rfl guard_none (look_tmp rfl) (fun _ => rfl) ?_
      refine o_move rfl rfl (guard_some rfl rfl rfl) (look_tmp rfl) (fun _ => rfl) ?_
      refine o_eql rfl rfl (guard_some rfl rfl rfl) (look_tmp rfl) (look_int rfl) (fun h => h) (fun _ => rfl) ?_
      refine o_pick rfl rfl guard_none (look_tmp rfl) look_bool (look_tmp rfl) (fun _ => rfl) (fun _ _ => rfl) (fun h1 h2 => pick_f ((fun _ => rfl) h1) h2) ?_
      refine o_end ?_
      refine den_cond (look_tmp rfl) ?_ ?_
      · refine den_seq ?_
        refine den_region rfl ?_
        refine o_assign rfl rfl guard_none (look_int rfl) (fun _ => rfl) ?_
        refine o_end ?_
        refine den_code_ret ?_
        refine dene_ret ?_
        exact dene_res (res1 rfl (rv_tmp rfl))
      · refine den_skip ?_
        refine den_seq ?_
        refine den_seq ?_
        refine den_region rfl ?_
        refine o_move rfl rfl guard_none (look_tmp rfl) (fun _ => rfl) ?_
        refine o_eql rfl rfl guard_none (look_tmp rfl) (look_int rfl) (fun _ => rfl) (fun _ => rfl) ?_
        refine o_move rfl rfl guard_none (look_tmp rfl) (fun _ => rfl) ?_
        refine o_move rfl rfl (guard_some rfl rfl rfl) (look_tmp rfl) (fun _ => rfl) ?_
        refine o_eql rfl rfl (guard_some rfl rfl rfl) (look_tmp rfl) (look_int rfl) (fun h => h) (fun _ => rfl) ?_
        refine o_pick rfl rfl guard_none (look_tmp rfl) look_bool (look_tmp rfl) (fun _ => rfl) (fun _ _ => rfl) (fun h1 h2 => pick_f ((fun _ => rfl) h1) h2) ?_
        refine o_move rfl rfl guard_none (look_tmp rfl) (fun _ => rfl) ?_
        refine o_move rfl rfl (guard_some rfl rfl rfl) (look_tmp rfl) (fun _ => rfl) ?_
        refine o_eql rfl rfl (guard_some rfl rfl rfl) (look_tmp rfl) (look_int rfl) (fun h => h) (fun _ => rfl) ?_
        refine o_pick rfl rfl guard_none (look_tmp rfl) look_bool (look_tmp rfl) (fun _ => rfl) (fun _ _ => rfl) (fun h1 h2 => pick_f ((fun _ => rfl) h1) h2) ?_
        refine o_move rfl rfl guard_none (look_tmp rfl) (fun _ => rfl) ?_
        refine o_move rfl rfl (guard_some rfl rfl rfl) (look_tmp rfl) (fun _ => rfl) ?_
        refine o_eql rfl rfl (guard_some rfl rfl rfl) (look_tmp rfl) (look_int rfl) (fun h => h) (fun _ => rfl) ?_
        refine o_pick rfl rfl guard_none (look_tmp rfl) look_bool (look_tmp rfl) (fun _ => rfl) (fun _ _ => rfl) (fun h1 h2 => pick_f ((fun _ => rfl) h1) h2) ?_
        refine o_move rfl rfl guard_none (look_tmp rfl) (fun _ => rfl) ?_
        refine o_move rfl rfl (guard_some rfl rfl rfl) (look_tmp rfl) (fun _ => rfl) ?_
        refine o_eql rfl rfl (guard_some rfl rfl rfl) (look_tmp rfl) (look_int rfl) (fun h => h) (fun _ => rfl) ?_
        refine o_pick rfl rfl guard_none (look_tmp rfl) look_bool (look_tmp rfl) (fun _ => rfl) (fun _ _ => rfl) (fun h1 h2 => pick_f ((fun _ => rfl) h1) h2) ?_
        refine o_move rfl rfl guard_none (look_tmp rfl) (fun _ => rfl) ?_
        refine o_move rfl rfl (guard_some rfl rfl rfl) (look_tmp rfl) (fun _ => rfl) ?_
        refine o_eql rfl rfl (guard_some rfl rfl rfl) (look_tmp rfl) (look_int rfl) (fun h => h) (fun _ => rfl) ?_
        refine o_pick rfl rfl guard_none (look_tmp rfl) look_bool (look_tmp rfl) (fun _ => rfl) (fun _ _ => rfl) (fun h1 h2 => pick_f ((fun _ => rfl) h1) h2) ?_
        refine o_end ?_
        refine den_cond (look_tmp rfl) ?_ ?_
        · refine den_seq ?_
          refine den_region rfl ?_
          refine o_assign rfl rfl guard_none (look_int rfl) (fun _ => rfl) ?_
          refine o_end ?_
          refine den_code_ret ?_
          refine dene_ret ?_
          exact dene_res (res1 rfl (rv_tmp rfl))
        · refine den_skip ?_
          refine den_seq ?_
          refine den_region rfl ?_
          refine o_assign rfl rfl guard_none (look_int rfl) (fun _ => rfl) ?_
          refine o_end ?_
          refine den_code_ret ?_
          exact dene_res (res1 rfl (rv_tmp rfl))

theorem ref06_Plain_ok  (s_0 : Bytes) : FunOk Tryd.prog 37 [⟨Rep.str, s_0, true⟩] (ref06_Plain s_0) (Rep.bool) := by
  refine fun_ok Tryd.func37 rfl Tryd.ntmps37 rfl (all_cons rfl all_nil) (fun w0 ok0 => ?_)
  refine den_seq ?_
  refine den_region rfl ?_
  refine o_assign rfl rfl guard_none look_bool (fun _ => rfl) ?_
  refine o_end ?_
  refine den_seq ?_
  refine den_seq ?_
  refine den_region rfl ?_
  refine o_move rfl rfl guard_none (look_tmp rfl) (fun _ => rfl) ?_
  refine o_slen Tryd.underlying9 rfl rfl guard_none (look_tmp rfl) (fun _ => rfl) ?_
  refine o_gtr rfl rfl guard_none (look_tmp rfl) (look_int rfl) (fun _ => rfl) (fun _ => rfl) ?_
  refine o_end ?_
  refine den_cond (look_tmp rfl) ?_ ?_
  · refine den_seq ?_
    refine den_region rfl ?_
    refine o_assign rfl rfl guard_none look_bool (fun _ => rfl) ?_
    refine o_end ?_
    refine den_code_ret ?_
    refine dene_ret ?_
    exact dene_res (res1 rfl (rv_tmp rfl))
  · refine den_skip ?_
    refine den_seq ?_
    refine den_seq ?_
    refine den_region rfl ?_
    refine o_assign rfl rfl guard_none (look_int rfl) (fun _ => rfl) ?_
    refine o_end ?_
    refine den_both (fun z1 => []) (fun z1 => []) ?_ (fun z1 => ?_)
    · refine den_block ?_
      refine den_loop (ref06_Plain_L1b s_0) (fun z2 => [(3, ⟨Rep.int .i64, z2, true⟩), (0, ⟨Rep.str, s_0, true⟩)]) (fun z2 => []) 0 (fun z2 => ?_) ((sub_env (sube_cons rfl (sube_cons rfl (sube_nil)))))
      refine den_seq ?_
      refine den_seq ?_
      refine den_region rfl ?_
      refine o_move rfl rfl guard_none (look_tmp rfl) (fun _ => rfl) ?_
      refine o_move rfl rfl guard_none (look_tmp rfl) (fun _ => rfl) ?_
      refine o_slen Tryd.underlying9 rfl rfl guard_none (look_tmp rfl) (fun _ => rfl) ?_
      refine o_lss rfl rfl guard_none (look_tmp rfl) (look_tmp rfl) (fun _ => rfl) (fun _ => rfl) ?_
      refine o_end ?_
      refine den_cond (look_tmp rfl) ?_ ?_
      · refine den_skip ?_
        refine den_seq ?_
        refine den_block ?_
        refine den_seq ?_
        refine den_region rfl ?_
        refine o_move rfl rfl guard_none (look_tmp rfl) (fun _ => rfl) ?_
        refine o_move rfl rfl guard_none (look_tmp rfl) (fun _ => rfl) ?_
        refine o_sidx Tryd.underlying9 rfl rfl (look_tmp rfl) (look_tmp rfl) rfl rfl (fun z3 => ?_)
        refine o_eql rfl rfl guard_none (look_tmp rfl) (look_int rfl) (fun _ => rfl) (fun _ => rfl) ?_
        refine o_move rfl rfl guard_none (look_tmp rfl) (fun _ => rfl) ?_
        refine o_move rfl rfl (guard_some rfl rfl rfl) (look_tmp rfl) (fun _ => rfl) ?_
        refine o_move rfl rfl (guard_some rfl rfl rfl) (look_tmp rfl) (fun _ => rfl) ?_
        refine o_sidxg Tryd.underlying9 rfl rfl (guard_some rfl rfl rfl) (look_tmp rfl) (look_tmp rfl) (fun h => h) (fun h => h) (fun z4 => ?_)
        refine o_eql rfl rfl (guard_some rfl rfl rfl) (look_tmp rfl) (look_int rfl) (fun h => h) (fun _ => rfl) ?_
        refine o_pick rfl rfl guard_none (look_tmp rfl) look_bool (look_tmp rfl) (fun _ => rfl) (fun _ _ => rfl) (fun h1 h2 => pick_f ((fun _ => rfl) h1) h2) ?_
        refine o_end ?_
        refine den_cond (look_tmp rfl) ?_ ?_
        · refine den_seq ?_
          refine den_region rfl ?_
          refine o_assign rfl rfl guard_none look_bool (fun _ => rfl) ?_
          refine o_end ?_
          refine den_code_ret ?_
          refine dene_ret ?_
          refine dene_loop (by simp) ?_
          refine dene_ret ?_
          refine dene_both (by simp) ?_
          refine dene_ret ?_
          exact dene_res (res1 rfl (rv_tmp rfl))
        · refine den_skip ?_
          refine den_blkend ?_
          refine den_region rfl ?_
          refine o_move rfl rfl guard_none (look_tmp rfl) (fun _ => rfl) ?_
          refine o_add rfl rfl guard_none (look_tmp rfl) (look_int rfl) (fun _ => rfl) (fun _ => rfl) ?_
          refine o_assign rfl rfl guard_none (look_tmp rfl) (fun _ => rfl) ?_
          refine o_end ?_
          refine den_next ((sub_env (sube_cons rfl (sube_cons rfl (sube_nil)))))
      · refine den_code_exit ?_
        refine dene_out rfl ?_
        refine dene_loop (by simp) ?_
        refine dene_to rfl ?_
        refine den_endl ((sub_env (sube_nil)))
    refine den_seq ?_
    refine den_region rfl ?_
    refine o_assign rfl rfl guard_none look_bool (fun _ => rfl) ?_
    refine o_end ?_
    refine den_code_ret ?_
    exact dene_res (res1 rfl (rv_tmp rfl))

theorem ref07_set_ok  (e_0 : T_api_Expr) : FunOk Tryd.prog 24 [⟨T_api_Expr_rep, e_0, true⟩] (ref07_set e_0) (Rep.bool) := by
  refine fun_ok Tryd.func24 rfl Tryd.ntmps24 rfl (all_cons rfl all_nil) (fun w0 ok0 => ?_)
  refine den_seq ?_
  refine den_region rfl ?_
  refine o_box rfl rfl (look_tmp rfl) rfl (fun z1 => ?_)
  refine o_assign rfl rfl guard_none look_bool (fun _ => rfl) ?_
  refine o_end ?_
  refine den_seq ?_
  refine den_seq ?_
  refine den_region rfl ?_
  refine o_faddr field35_5 type33 (by decide) rfl rfl guard_none (look_tmp rfl) (fun _ => rfl) ?_
  refine o_oloadi 0 rfl type33 T_api_Expr_foc5 rfl guard_none (look_tmp rfl) (fun _ => rfl) ?_
  refine o_llen Tryd.underlying33 rfl rfl guard_none (look_tmp rfl) (fun _ => rfl) ?_
  refine o_gtr rfl rfl guard_none (look_tmp rfl) (look_int rfl) (fun _ => rfl) (fun _ => rfl) ?_
  refine o_end ?_
  refine den_cond (look_tmp rfl) ?_ ?_
  · refine den_seq ?_
    refine den_region rfl ?_
    refine o_assign rfl rfl guard_none look_bool (fun _ => rfl) ?_
    refine o_end ?_
    refine den_code_ret ?_
    refine dene_ret ?_
    exact dene_res (res1 rfl (rv_tmp rfl))
  · refine den_skip ?_
    refine den_seq ?_
    refine den_seq ?_
    refine den_region rfl ?_
    refine o_assign rfl rfl guard_none (look_int rfl) (fun _ => rfl) ?_
    refine o_end ?_
    refine den_both (fun z2 => []) (fun z2 => []) ?_ (fun z2 => ?_)
    · refine den_block ?_
      refine den_loop (ref07_set_L1b e_0) (fun z3 => [(3, ⟨Rep.int .i64, z3, true⟩), (1, ⟨Rep.addr, (z1, 0), true⟩)]) (fun z3 => [.obj true z1 0 (.dat T_api_Expr_rep) e_0]) 0 (fun z3 => ?_) ((sub_env (sube_cons rfl (sube_cons rfl (sube_nil)))))
      refine den_seq ?_
      refine den_seq ?_
      refine den_region rfl ?_
      refine o_move rfl rfl guard_none (look_tmp rfl) (fun _ => rfl) ?_
      refine o_faddr field35_5 type33 (by decide) rfl rfl guard_none (look_tmp rfl) (fun _ => rfl) ?_
      refine o_oloadi 0 rfl type33 T_api_Expr_foc5 rfl guard_none (look_tmp rfl) (fun _ => rfl) ?_
      refine o_llen Tryd.underlying33 rfl rfl guard_none (look_tmp rfl) (fun _ => rfl) ?_
      refine o_lss rfl rfl guard_none (look_tmp rfl) (look_tmp rfl) (fun _ => rfl) (fun _ => rfl) ?_
      refine o_end ?_
      refine den_cond (look_tmp rfl) ?_ ?_
      · refine den_skip ?_
        refine den_seq ?_
        refine den_block ?_
        refine den_seq ?_
        refine den_region rfl ?_
        refine o_faddr field35_5 type33 (by decide) rfl rfl guard_none (look_tmp rfl) (fun _ => rfl) ?_
        refine o_oloadi 0 rfl type33 T_api_Expr_foc5 rfl guard_none (look_tmp rfl) (fun _ => rfl) ?_
        refine o_move rfl rfl guard_none (look_tmp rfl) (fun _ => rfl) ?_
        refine o_iaddr Tryd.underlying33 type35 rfl rfl (look_tmp rfl) (look_tmp rfl) rfl rfl (fun z4 => ?_)
        refine o_load type35 rfl rfl guard_none (look_tmp rfl) (fun _ => rfl) ?_
        refine o_alloc zero35 rfl rfl (fun z5 => ?_)
        refine o_ostore type35 foc_self guard_none (look_tmp rfl) (fun _ => rfl) (look_tmp rfl) (fun _ => rfl) ?_
        refine o_end ?_
        refine den_seq ?_
        refine den_seq ?_
        refine den_region rfl ?_
        refine o_faddr field35_0 type3 (by decide) rfl rfl guard_none (look_tmp rfl) (fun _ => rfl) ?_
        refine o_oloadi 0 rfl type3 T_api_Expr_foc0 rfl guard_none (look_tmp rfl) (fun _ => rfl) ?_
        refine o_neq rfl rfl guard_none (look_tmp rfl) (look_int rfl) (fun _ => rfl) (fun _ => rfl) ?_
        refine o_move rfl rfl guard_none (look_tmp rfl) (fun _ => rfl) ?_
        refine o_faddr field35_5 type33 (by decide) rfl rfl (guard_some rfl rfl rfl) (look_tmp rfl) (fun _ => rfl) ?_
        refine o_oloadi 0 rfl type33 T_api_Expr_foc5 rfl (guard_some rfl rfl rfl) (look_tmp rfl) (fun h => h) ?_
        refine o_llen Tryd.underlying33 rfl rfl (guard_some rfl rfl rfl) (look_tmp rfl) (fun h => h) ?_
        refine o_gtr rfl rfl (guard_some rfl rfl rfl) (look_tmp rfl) (look_int rfl) (fun h => h) (fun _ => rfl) ?_
        refine o_pick rfl rfl guard_none (look_tmp rfl) look_bool (look_tmp rfl) (fun _ => rfl) (fun _ _ => rfl) (fun h1 h2 => pick_f ((fun _ => rfl) h1) h2) ?_
        refine o_move rfl rfl guard_none (look_tmp rfl) (fun _ => rfl) ?_
        refine o_faddr field35_2 type2 (by decide) rfl rfl (guard_some rfl rfl rfl) (look_tmp rfl) (fun _ => rfl) ?_
        refine o_oloadi 0 rfl type2 T_api_Expr_foc2 rfl (guard_some rfl rfl rfl) (look_tmp rfl) (fun h => h) ?_
        refine o_neq rfl rfl (guard_some rfl rfl rfl) (look_tmp rfl) (look_int rfl) (fun h => h) (fun _ => rfl) ?_
        refine o_pick rfl rfl guard_none (look_tmp rfl) look_bool (look_tmp rfl) (fun _ => rfl) (fun _ _ => rfl) (fun h1 h2 => pick_f ((fun _ => rfl) h1) h2) ?_
        refine o_move rfl rfl guard_none (look_tmp rfl) (fun _ => rfl) ?_
        refine o_faddr field35_3 type2 (by decide) rfl rfl (guard_some rfl rfl rfl) (look_tmp rfl) (fun _ => rfl) ?_
        refine o_oloadi 0 rfl type2 T_api_Expr_foc3 rfl (guard_some rfl rfl rfl) (look_tmp rfl) (fun h => h) ?_
        refine o_neq rfl rfl (guard_some rfl rfl rfl) (look_tmp rfl) (look_int rfl) (fun h => h) (fun _ => rfl) ?_
        refine o_pick rfl rfl guard_none (look_tmp rfl) look_bool (look_tmp rfl) (fun _ => rfl) (fun _ _ => rfl) (fun h1 h2 => pick_f ((fun _ => rfl) h1) h2) ?_
        refine o_move rfl rfl guard_none (look_tmp rfl) (fun _ => rfl) ?_
        refine o_faddr field35_4 type2 (by decide) rfl rfl (guard_some rfl rfl rfl) (look_tmp rfl) (fun _ => rfl) ?_
        refine o_oloadi 0 rfl type2 T_api_Expr_foc4 rfl (guard_some rfl rfl rfl) (look_tmp rfl) (fun h => h) ?_
        refine o_neq rfl rfl (guard_some rfl rfl rfl) (look_tmp rfl) (look_int rfl) (fun h => h) (fun _ => rfl) ?_
        refine o_pick rfl rfl guard_none (look_tmp rfl) look_bool (look_tmp rfl) (fun _ => rfl) (fun _ _ => rfl) (fun h1 h2 => pick_f ((fun _ => rfl) h1) h2) ?_
        refine o_move rfl rfl guard_none (look_tmp rfl) (fun _ => rfl) ?_
        refine o_faddr field35_1 type9 (by decide) rfl rfl (guard_some rfl rfl rfl) (look_tmp rfl) (fun _ => rfl) ?_
        refine o_oloadi 0 rfl type9 T_api_Expr_foc1 rfl (guard_some rfl rfl rfl) (look_tmp rfl) (fun h => h) ?_
        refine o_callg rfl rfl rfl (guard_some rfl rfl rfl) callable37 (looks_cons (look_tmp rfl) (fun h => h) (looks_nil)) (ref06_Plain_ok _) (fun z6 => ?_)
        refine o_not rfl rfl (guard_some rfl rfl rfl) (look_tmp rfl) (fun h => h) ?_
        refine o_pick rfl rfl guard_none (look_tmp rfl) look_bool (look_tmp rfl) (fun _ => rfl) (fun _ _ => rfl) (fun h1 h2 => pick_f ((fun _ => rfl) h1) h2) ?_
        refine o_end ?_
        refine den_cond (look_tmp rfl) ?_ ?_
        · refine den_seq ?_
          refine den_region rfl ?_
          refine o_assign rfl rfl guard_none look_bool (fun _ => rfl) ?_
          refine o_end ?_
          refine den_code_ret ?_
          refine dene_ret ?_
          refine dene_loop (by simp) ?_
          refine dene_ret ?_
          refine dene_both (by simp) ?_
          refine dene_ret ?_
          exact dene_res (res1 rfl (rv_tmp rfl))
        · refine den_skip ?_
          refine den_seq ?_
          refine den_open (fun z7 h_z7 => ?_)
          refine den_draw [(51, ⟨Rep.int .i64, z3, true⟩), (52, ⟨Rep.bool, decide (0 < z3), true⟩), (53, ⟨Rep.bool, decide (0 < z3), true⟩), (54, ⟨Rep.addr, (z5, 0 + 1), (true && ((decide (0 < z3)) == true))⟩), (55, ⟨Rep.str, z4.Name, (true && ((decide (0 < z3)) == true))⟩), (56, ⟨Rep.addr, (z1, 0 + 5), (true && ((decide (0 < z3)) == true))⟩), (57, ⟨(T_api_Expr_rep).slice, e_0.Kids, (true && ((decide (0 < z3)) == true))⟩), (58, ⟨Rep.int .i64, z3, (true && ((decide (0 < z3)) == true))⟩), (59, ⟨Rep.int .i64, IntKind.i64.wrap (z3 - 1), (true && ((decide (0 < z3)) == true))⟩), (60, ⟨(T_api_Expr_rep).ptrTo, z7, (true && ((decide (0 < z3)) == true))⟩), (61, ⟨(Rep.str).ptrTo, z7.Name, (true && ((decide (0 < z3)) == true))⟩), (62, ⟨Rep.str, z7.Name, (true && ((decide (0 < z3)) == true))⟩), (63, ⟨Rep.bool, (less z4.Name z7.Name || z4.Name == z7.Name), (true && ((decide (0 < z3)) == true))⟩), (64, ⟨Rep.bool, cond (decide (0 < z3)) (less z4.Name z7.Name || z4.Name == z7.Name) false, true⟩)] mixed rfl rfl ⟨?_, ?_, ?_, ?_, ?_, ?_, ?_, ?_, ?_, ?_, ?_, ?_, ?_, ?_, trivial⟩ ?_
          · intro S hc hk hp
            refine o_move rfl rfl guard_none (look_o rfl rfl) (fun _ => rfl) ?_
            exact d_end rfl rfl rfl
          · intro S hc hk hp
            refine o_gtr rfl rfl guard_none (look_d rfl rfl (pr hp 0 rfl rfl)) (look_int rfl) (fun _ => rfl) (fun _ => rfl) ?_
            exact d_end rfl rfl rfl
          · intro S hc hk hp
            refine o_move rfl rfl guard_none (look_d rfl rfl (pr hp 0 rfl rfl)) (fun _ => rfl) ?_
            exact d_end rfl rfl rfl
          · intro S hc hk hp
            refine o_faddr field35_1 type9 (by decide) rfl rfl (guard_d rfl rfl rfl rfl (pr hp 0 rfl rfl)) (look_o rfl rfl) (fun _ => rfl) ?_
            exact d_end rfl rfl rfl
          · intro S hc hk hp
            refine o_oloadi 0 rfl type9 T_api_Expr_foc1 rfl (guard_d rfl rfl rfl rfl (pr hp 1 rfl rfl)) (look_d rfl rfl (pr hp 0 rfl rfl)) (fun h => h) ?_
            exact d_end rfl rfl rfl
          · intro S hc hk hp
            refine o_faddr field35_5 type33 (by decide) rfl rfl (guard_d rfl rfl rfl rfl (pr hp 0 rfl rfl)) (look_o rfl rfl) (fun _ => rfl) ?_
            exact d_end rfl rfl rfl
          · intro S hc hk hp
            refine o_oloadi 1 rfl type33 T_api_Expr_foc5 rfl (guard_d rfl rfl rfl rfl (pr hp 1 rfl rfl)) (look_d rfl rfl (pr hp 0 rfl rfl)) (fun h => h) ?_
            exact d_end rfl rfl rfl
          · intro S hc hk hp
            refine o_move rfl rfl (guard_d rfl rfl rfl rfl (pr hp 0 rfl rfl)) (look_o rfl rfl) (fun _ => rfl) ?_
            exact d_end rfl rfl rfl
          · intro S hc hk hp
            refine o_sub rfl rfl (guard_d rfl rfl rfl rfl (pr hp 1 rfl rfl)) (look_d rfl rfl (pr hp 0 rfl rfl)) (look_int rfl) (fun h => h) (fun _ => rfl) ?_
            exact d_end rfl rfl rfl
          · intro S hc hk hp
            refine o_from (bind_eqO h_z7) ?_
            refine o_iaddrg Tryd.underlying33 type35 rfl rfl (guard_d rfl rfl rfl rfl (pr hp 2 rfl rfl)) (look_d rfl rfl (pr hp 0 rfl rfl)) (look_d rfl rfl (pr hp 1 rfl rfl)) (fun h => h) (fun h => h) (o_eqO ?_)
            exact d_end rfl rfl rfl
          · intro S hc hk hp
            refine o_fptr field35_1 type9 (by decide) T_api_Expr_foc1 rfl rfl (guard_d rfl rfl rfl rfl (pr hp 1 rfl rfl)) (look_d rfl rfl (pr hp 0 rfl rfl)) (fun h => h) ?_
            exact d_end rfl rfl rfl
          · intro S hc hk hp
            refine o_load type9 rfl rfl (guard_d rfl rfl rfl rfl (pr hp 1 rfl rfl)) (look_d rfl rfl (pr hp 0 rfl rfl)) (fun h => h) ?_
            exact d_end rfl rfl rfl
          · intro S hc hk hp
            refine o_sleq rfl rfl (guard_d rfl rfl rfl rfl (pr hp 2 rfl rfl)) (look_d rfl rfl (pr hp 0 rfl rfl)) (look_d rfl rfl (pr hp 1 rfl rfl)) (fun h => h) (fun h => h) ?_
            exact d_end rfl rfl rfl
          · intro S hc hk hp
            refine o_pick rfl rfl guard_none (look_d rfl rfl (pr hp 0 rfl rfl)) (look_d rfl rfl (pr hp 1 rfl rfl)) look_bool (fun _ => rfl) (fun h1 h2 => pick_t ((fun _ => rfl) h1) h2) (fun _ _ => rfl) ?_
            exact d_end rfl rfl rfl
          refine den_cond (look_tmp rfl) ?_ ?_
          · refine den_seq ?_
            refine den_region rfl ?_
            refine o_assign rfl rfl guard_none look_bool (fun _ => rfl) ?_
            refine o_end ?_
            refine den_code_ret ?_
            refine dene_ret ?_
            refine dene_loop (by simp) ?_
            refine dene_ret ?_
            refine dene_both (by simp) ?_
            refine dene_ret ?_
            exact dene_res (res1 rfl (rv_tmp rfl))
          · refine den_skip ?_
            refine den_blkend ?_
            refine den_region rfl ?_
            refine o_move rfl rfl guard_none (look_tmp rfl) (fun _ => rfl) ?_
            refine o_add rfl rfl guard_none (look_tmp rfl) (look_int rfl) (fun _ => rfl) (fun _ => rfl) ?_
            refine o_assign rfl rfl guard_none (look_tmp rfl) (fun _ => rfl) ?_
            refine o_end ?_
            refine den_next ((Sub.trans (sub_pick [1] rfl rfl) (sub_env (sube_cons rfl (sube_cons rfl (sube_nil))))))
      · refine den_code_exit ?_
        refine dene_out rfl ?_
        refine dene_loop (by simp) ?_
        refine dene_to rfl ?_
        refine den_endl ((Sub.trans (sub_pick [] rfl rfl) (sub_env (sube_nil))))
    refine den_seq ?_
    refine den_region rfl ?_
    refine o_assign rfl rfl guard_none look_bool (fun _ => rfl) ?_
    refine o_end ?_
    refine den_code_ret ?_
    exact dene_res (res1 rfl (rv_tmp rfl))

theorem ref06_head_ok  (c_0 : Int) : FunOk Tryd.prog 46 [⟨Rep.int .u8, c_0, true⟩] (ref06_head c_0) (Rep.bool) := by
  refine fun_ok Tryd.func46 rfl Tryd.ntmps46 rfl (all_cons rfl all_nil) (fun w0 ok0 => ?_)
  refine den_seq ?_
  refine den_region rfl ?_
  refine o_assign rfl rfl guard_none look_bool (fun _ => rfl) ?_
  refine o_end ?_
  refine den_seq ?_
  refine den_region rfl ?_
  refine o_move rfl rfl guard_none (look_tmp rfl) (fun _ => rfl) ?_
  refine o_geq rfl rfl guard_none (look_tmp rfl) (look_int rfl) (fun _ => rfl) (fun _ => rfl) ?_
  refine o_move rfl rfl guard_none (look_tmp rfl) (fun _ => rfl) ?_
  refine o_move rfl rfl (guard_some rfl rfl rfl) (look_tmp rfl) (fun _ => rfl) ?_
  refine o_leq rfl rfl (guard_some rfl rfl rfl) (look_tmp rfl) (look_int rfl) (fun h => h) (fun _ => rfl) ?_
  refine o_pick rfl rfl guard_none (look_tmp rfl) (look_tmp rfl) look_bool (fun _ => rfl) (fun h1 h2 => pick_t ((fun _ => rfl) h1) h2) (fun _ _ => rfl) ?_
  refine o_move rfl rfl guard_none (look_tmp rfl) (fun _ => rfl) ?_
  refine o_move rfl rfl (guard_some rfl rfl rfl) (look_tmp rfl) (fun _ => rfl) ?_
  refine o_geq rfl rfl (guard_some rfl rfl rfl) (look_tmp rfl) (look_int rfl) (fun h => h) (fun _ => rfl) ?_
  refine o_move rfl rfl (guard_some rfl rfl rfl) (look_tmp rfl) (fun h => h) ?_
  refine o_move rfl rfl (guard_some rfl rfl rfl) (look_tmp rfl) (fun _ => rfl) ?_
  refine o_leq rfl rfl (guard_some rfl rfl rfl) (look_tmp rfl) (look_int rfl) (fun h => h) (fun _ => rfl) ?_
  refine o_pick rfl rfl (guard_some rfl rfl rfl) (look_tmp rfl) (look_tmp rfl) look_bool (fun h => h) (fun h1 h2 => pick_t ((fun h => h) h1) h2) (fun _ _ => rfl) ?_
  refine o_pick rfl rfl guard_none (look_tmp rfl) look_bool (look_tmp rfl) (fun _ => rfl) (fun _ _ => rfl) (fun h1 h2 => pick_f ((fun _ => rfl) h1) h2) ?_
  refine o_move rfl rfl guard_none (look_tmp rfl) (fun _ => rfl) ?_
  refine o_move rfl rfl (guard_some rfl rfl rfl) (look_tmp rfl) (fun _ => rfl) ?_
  refine o_eql rfl rfl (guard_some rfl rfl rfl) (look_tmp rfl) (look_int rfl) (fun h => h) (fun _ => rfl) ?_
  refine o_pick rfl rfl guard_none (look_tmp rfl) look_bool (look_tmp rfl) (fun _ => rfl) (fun _ _ => rfl) (fun h1 h2 => pick_f ((fun _ => rfl) h1) h2) ?_
  refine o_assign rfl rfl guard_none (look_tmp rfl) (fun _ => rfl) ?_
  refine o_lt (fun z1 => ?_)
  refine o_end ?_
  refine den_code_ret ?_
  exact dene_res (res1 rfl (rv_tmp rfl))

theorem ref06_tail_ok  (c_0 : Int) : FunOk Tryd.prog 47 [⟨Rep.int .u8, c_0, true⟩] (ref06_tail c_0) (Rep.bool) := by
  refine fun_ok Tryd.func47 rfl Tryd.ntmps47 rfl (all_cons rfl all_nil) (fun w0 ok0 => ?_)
  refine den_seq ?_
  refine den_region rfl ?_
  refine o_assign rfl rfl guard_none look_bool (fun _ => rfl) ?_
  refine o_end ?_
  refine den_seq ?_
  refine den_region rfl ?_
  refine o_move rfl rfl guard_none (look_tmp rfl) (fun _ => rfl) ?_
  refine o_call rfl rfl rfl callable46 (looks_cons (look_tmp rfl) (fun _ => rfl) (looks_nil)) (ref06_head_ok _) (fun z1 => ?_)
  refine o_move rfl rfl guard_none (look_tmp rfl) (fun _ => rfl) ?_
  refine o_move rfl rfl (guard_some rfl rfl rfl) (look_tmp rfl) (fun _ => rfl) ?_
  refine o_geq rfl rfl (guard_some rfl rfl rfl) (look_tmp rfl) (look_int rfl) (fun h => h) (fun _ => rfl) ?_
  refine o_move rfl rfl (guard_some rfl rfl rfl) (look_tmp rfl) (fun h => h) ?_
  refine o_move rfl rfl (guard_some rfl rfl rfl) (look_tmp rfl) (fun _ => rfl) ?_
  refine o_leq rfl rfl (guard_some rfl rfl rfl) (look_tmp rfl) (look_int rfl) (fun h => h) (fun _ => rfl) ?_
  refine o_pick rfl rfl (guard_some rfl rfl rfl) (look_tmp rfl) (look_tmp rfl) look_bool (fun h => h) (fun h1 h2 => pick_t ((fun h => h) h1) h2) (fun _ _ => rfl) ?_
  refine o_pick rfl rfl guard_none (look_tmp rfl) look_bool (look_tmp rfl) (fun _ => rfl) (fun _ _ => rfl) (fun h1 h2 => pick_f ((fun _ => rfl) h1) h2) ?_
  refine o_assign rfl rfl guard_none (look_tmp rfl) (fun _ => rfl) ?_
  refine o_lt (fun z2 => ?_)
  refine o_end ?_
  refine den_code_ret ?_
  exact dene_res (res1 rfl (rv_tmp rfl))

theorem ref06_Name_ok  (s_0 : Bytes) : FunOk Tryd.prog 38 [⟨Rep.str, s_0, true⟩] (ref06_Name s_0) (Rep.bool) := by
  refine fun_ok Tryd.func38 rfl Tryd.ntmps38 rfl (all_cons rfl all_nil) (fun w0 ok0 => ?_)
  refine den_seq ?_
  refine den_region rfl ?_
  refine o_assign rfl rfl guard_none look_bool (fun _ => rfl) ?_
  refine o_end ?_
  refine den_seq ?_
  refine den_seq ?_
  refine den_region rfl ?_
  refine o_move rfl rfl guard_none (look_tmp rfl) (fun _ => rfl) ?_
  refine o_seql rfl rfl guard_none (look_tmp rfl) (look_str (l := []) rfl (by decide)) (fun _ => rfl) (fun _ => rfl) ?_
  refine o_move rfl rfl guard_none (look_tmp rfl) (fun _ => rfl) ?_
  refine o_move rfl rfl (guard_some rfl rfl rfl) (look_tmp rfl) (fun _ => rfl) ?_
  refine o_slen Tryd.underlying9 rfl rfl (guard_some rfl rfl rfl) (look_tmp rfl) (fun h => h) ?_
  refine o_gtr rfl rfl (guard_some rfl rfl rfl) (look_tmp rfl) (look_int rfl) (fun h => h) (fun _ => rfl) ?_
  refine o_pick rfl rfl guard_none (look_tmp rfl) look_bool (look_tmp rfl) (fun _ => rfl) (fun _ _ => rfl) (fun h1 h2 => pick_f ((fun _ => rfl) h1) h2) ?_
  refine o_move rfl rfl guard_none (look_tmp rfl) (fun _ => rfl) ?_
  refine o_move rfl rfl (guard_some rfl rfl rfl) (look_tmp rfl) (fun _ => rfl) ?_
  refine o_sidxg Tryd.underlying9 rfl rfl (guard_some rfl rfl rfl) (look_tmp rfl) (look_int rfl) (fun h => h) (fun _ => rfl) (fun z1 => ?_)
  refine o_callg rfl rfl rfl (guard_some rfl rfl rfl) callable46 (looks_cons (look_tmp rfl) (fun h => h) (looks_nil)) (ref06_head_ok _) (fun z2 => ?_)
  refine o_not rfl rfl (guard_some rfl rfl rfl) (look_tmp rfl) (fun h => h) ?_
  refine o_pick rfl rfl guard_none (look_tmp rfl) look_bool (look_tmp rfl) (fun _ => rfl) (fun _ _ => rfl) (fun h1 h2 => pick_f ((fun _ => rfl) h1) h2) ?_
  refine o_end ?_
  refine den_cond (look_tmp rfl) ?_ ?_
  · refine den_seq ?_
    refine den_region rfl ?_
    refine o_assign rfl rfl guard_none look_bool (fun _ => rfl) ?_
    refine o_end ?_
    refine den_code_ret ?_
    refine dene_ret ?_
    exact dene_res (res1 rfl (rv_tmp rfl))
  · refine den_skip ?_
    refine den_seq ?_
    refine den_seq ?_
    refine den_region rfl ?_
    refine o_assign rfl rfl guard_none (look_int rfl) (fun _ => rfl) ?_
    refine o_end ?_
    refine den_both (fun z3 => []) (fun z3 => []) ?_ (fun z3 => ?_)
    · refine den_block ?_
      refine den_loop (ref06_Name_L1b s_0) (fun z4 => [(3, ⟨Rep.int .i64, z4, true⟩), (0, ⟨Rep.str, s_0, true⟩)]) (fun z4 => []) 1 (fun z4 => ?_) ((sub_env (sube_cons rfl (sube_cons rfl (sube_nil)))))
      refine den_seq ?_
      refine den_seq ?_
      refine den_region rfl ?_
      refine o_move rfl rfl guard_none (look_tmp rfl) (fun _ => rfl) ?_
      refine o_move rfl rfl guard_none (look_tmp rfl) (fun _ => rfl) ?_
      refine o_slen Tryd.underlying9 rfl rfl guard_none (look_tmp rfl) (fun _ => rfl) ?_
      refine o_lss rfl rfl guard_none (look_tmp rfl) (look_tmp rfl) (fun _ => rfl) (fun _ => rfl) ?_
      refine o_end ?_
      refine den_cond (look_tmp rfl) ?_ ?_
      · refine den_skip ?_
        refine den_seq ?_
        refine den_block ?_
        refine den_seq ?_
        refine den_region rfl ?_
        refine o_move rfl rfl guard_none (look_tmp rfl) (fun _ => rfl) ?_
        refine o_move rfl rfl guard_none (look_tmp rfl) (fun _ => rfl) ?_
        refine o_sidx Tryd.underlying9 rfl rfl (look_tmp rfl) (look_tmp rfl) rfl rfl (fun z5 => ?_)
        refine o_call rfl rfl rfl callable47 (looks_cons (look_tmp rfl) (fun _ => rfl) (looks_nil)) (ref06_tail_ok _) (fun z6 => ?_)
        refine o_not rfl rfl guard_none (look_tmp rfl) (fun _ => rfl) ?_
        refine o_end ?_
        refine den_cond (look_tmp rfl) ?_ ?_
        · refine den_seq ?_
          refine den_region rfl ?_
          refine o_assign rfl rfl guard_none look_bool (fun _ => rfl) ?_
          refine o_end ?_
          refine den_code_ret ?_
          refine dene_ret ?_
          refine dene_loop (by simp) ?_
          refine dene_ret ?_
          refine dene_both (by simp) ?_
          refine dene_ret ?_
          exact dene_res (res1 rfl (rv_tmp rfl))
        · refine den_skip ?_
          refine den_blkend ?_
          refine den_region rfl ?_
          refine o_move rfl rfl guard_none (look_tmp rfl) (fun _ => rfl) ?_
          refine o_add rfl rfl guard_none (look_tmp rfl) (look_int rfl) (fun _ => rfl) (fun _ => rfl) ?_
          refine o_assign rfl rfl guard_none (look_tmp rfl) (fun _ => rfl) ?_
          refine o_end ?_
          refine den_next ((sub_env (sube_cons rfl (sube_cons rfl (sube_nil)))))
      · refine den_code_exit ?_
        refine dene_out rfl ?_
        refine dene_loop (by simp) ?_
        refine dene_to rfl ?_
        refine den_endl ((sub_env (sube_nil)))
    refine den_seq ?_
    refine den_region rfl ?_
    refine o_assign rfl rfl guard_none look_bool (fun _ => rfl) ?_
    refine o_end ?_
    refine den_code_ret ?_
    exact dene_res (res1 rfl (rv_tmp rfl))

theorem ref07_fits_ok  (e_0 : T_api_Expr) : FunOk Tryd.prog 25 [⟨T_api_Expr_rep, e_0, true⟩] (ref07_fits e_0) (Rep.bool) := by
  refine fun_ok Tryd.func25 rfl Tryd.ntmps25 rfl (all_cons rfl all_nil) (fun w0 ok0 => ?_)
  refine den_seq ?_
  refine den_region rfl ?_
  refine o_box rfl rfl (look_tmp rfl) rfl (fun z1 => ?_)
  refine o_assign rfl rfl guard_none look_bool (fun _ => rfl) ?_
  refine o_end ?_
  refine den_seq ?_
  refine den_region rfl ?_
  refine o_faddr field35_0 type3 (by decide) rfl rfl guard_none (look_tmp rfl) (fun _ => rfl) ?_
  refine o_oloadi 0 rfl type3 T_api_Expr_foc0 rfl guard_none (look_tmp rfl) (fun _ => rfl) ?_
  refine o_assign rfl rfl guard_none (look_tmp rfl) (fun _ => rfl) ?_
  refine o_end ?_
  refine den_seq ?_
  refine den_seq ?_
  refine den_region rfl ?_
  refine o_move rfl rfl guard_none (look_tmp rfl) (fun _ => rfl) ?_
  refine o_eql rfl rfl guard_none (look_tmp rfl) (look_int rfl) (fun _ => rfl) (fun _ => rfl) ?_
  refine o_move rfl rfl guard_none (look_tmp rfl) (fun _ => rfl) ?_
  refine o_faddr field35_1 type9 (by decide) rfl rfl (guard_some rfl rfl rfl) (look_tmp rfl) (fun _ => rfl) ?_
  refine o_oloadi 0 rfl type9 T_api_Expr_foc1 rfl (guard_some rfl rfl rfl) (look_tmp rfl) (fun h => h) ?_
  refine o_callg rfl rfl rfl (guard_some rfl rfl rfl) callable37 (looks_cons (look_tmp rfl) (fun h => h) (looks_nil)) (ref06_Plain_ok _) (fun z2 => ?_)
  refine o_not rfl rfl (guard_some rfl rfl rfl) (look_tmp rfl) (fun h => h) ?_
  refine o_pick rfl rfl guard_none (look_tmp rfl) (look_tmp rfl) look_bool (fun _ => rfl) (fun h1 h2 => pick_t ((fun _ => rfl) h1) h2) (fun _ _ => rfl) ?_
  refine o_end ?_
  refine den_cond (look_tmp rfl) ?_ ?_
  · refine den_seq ?_
    refine den_region rfl ?_
    refine o_assign rfl rfl guard_none look_bool (fun _ => rfl) ?_
    refine o_end ?_
    refine den_code_ret ?_
    refine dene_ret ?_
    exact dene_res (res1 rfl (rv_tmp rfl))
  · refine den_skip ?_
    refine den_seq ?_
    refine den_region rfl ?_
    refine o_move rfl rfl guard_none (look_tmp rfl) (fun _ => rfl) ?_
    refine o_eql rfl rfl guard_none (look_tmp rfl) (look_int rfl) (fun _ => rfl) (fun _ => rfl) ?_
    refine o_move rfl rfl guard_none (look_tmp rfl) (fun _ => rfl) ?_
    refine o_move rfl rfl (guard_some rfl rfl rfl) (look_tmp rfl) (fun _ => rfl) ?_
    refine o_eql rfl rfl (guard_some rfl rfl rfl) (look_tmp rfl) (look_int rfl) (fun h => h) (fun _ => rfl) ?_
    refine o_pick rfl rfl guard_none (look_tmp rfl) look_bool (look_tmp rfl) (fun _ => rfl) (fun _ _ => rfl) (fun h1 h2 => pick_f ((fun _ => rfl) h1) h2) ?_
    refine o_move rfl rfl guard_none (look_tmp rfl) (fun _ => rfl) ?_
    refine o_move rfl rfl (guard_some rfl rfl rfl) (look_tmp rfl) (fun _ => rfl) ?_
    refine o_eql rfl rfl (guard_some rfl rfl rfl) (look_tmp rfl) (look_int rfl) (fun h => h) (fun _ => rfl) ?_
    refine o_pick rfl rfl guard_none (look_tmp rfl) look_bool (look_tmp rfl) (fun _ => rfl) (fun _ _ => rfl) (fun h1 h2 => pick_f ((fun _ => rfl) h1) h2) ?_
    refine o_move rfl rfl guard_none (look_tmp rfl) (fun _ => rfl) ?_
    refine o_move rfl rfl (guard_some rfl rfl rfl) (look_tmp rfl) (fun _ => rfl) ?_
    refine o_eql rfl rfl (guard_some rfl rfl rfl) (look_tmp rfl) (look_int rfl) (fun h => h) (fun _ => rfl) ?_
    refine o_pick rfl rfl guard_none (look_tmp rfl) look_bool (look_tmp rfl) (fun _ => rfl) (fun _ _ => rfl) (fun h1 h2 => pick_f ((fun _ => rfl) h1) h2) ?_
    refine o_assign rfl rfl guard_none (look_tmp rfl) (fun _ => rfl) ?_
    refine o_lt (fun named3 => ?_)
    refine o_end ?_
    refine den_seq ?_
    refine den_seq ?_
    refine den_region rfl ?_
    refine o_move rfl rfl guard_none (look_tmp rfl) (fun _ => rfl) ?_
    refine o_move rfl rfl guard_none (look_tmp rfl) (fun _ => rfl) ?_
    refine o_faddr field35_1 type9 (by decide) rfl rfl (guard_some rfl rfl rfl) (look_tmp rfl) (fun _ => rfl) ?_
    refine o_oloadi 0 rfl type9 T_api_Expr_foc1 rfl (guard_some rfl rfl rfl) (look_tmp rfl) (fun h => h) ?_
    refine o_callg rfl rfl rfl (guard_some rfl rfl rfl) callable38 (looks_cons (look_tmp rfl) (fun h => h) (looks_nil)) (ref06_Name_ok _) (fun z4 => ?_)
    refine o_not rfl rfl (guard_some rfl rfl rfl) (look_tmp rfl) (fun h => h) ?_
    refine o_pick rfl rfl guard_none (look_tmp rfl) (look_tmp rfl) look_bool (fun _ => rfl) (fun h1 h2 => pick_t ((fun _ => rfl) h1) h2) (fun _ _ => rfl) ?_
    refine o_move rfl rfl guard_none (look_tmp rfl) (fun _ => rfl) ?_
    refine o_move rfl rfl (guard_some rfl rfl rfl) (look_tmp rfl) (fun _ => rfl) ?_
    refine o_not rfl rfl (guard_some rfl rfl rfl) (look_tmp rfl) (fun h => h) ?_
    refine o_move rfl rfl (guard_some rfl rfl rfl) (look_tmp rfl) (fun h => h) ?_
    refine o_move rfl rfl (guard_some rfl rfl rfl) (look_tmp rfl) (fun _ => rfl) ?_
    refine o_neq rfl rfl (guard_some rfl rfl rfl) (look_tmp rfl) (look_int rfl) (fun h => h) (fun _ => rfl) ?_
    refine o_pick rfl rfl (guard_some rfl rfl rfl) (look_tmp rfl) (look_tmp rfl) look_bool (fun h => h) (fun h1 h2 => pick_t ((fun h => h) h1) h2) (fun _ _ => rfl) ?_
    refine o_move rfl rfl (guard_some rfl rfl rfl) (look_tmp rfl) (fun h => h) ?_
    refine o_faddr field35_1 type9 (by decide) rfl rfl (guard_some rfl rfl rfl) (look_tmp rfl) (fun _ => rfl) ?_
    refine o_oloadi 0 rfl type9 T_api_Expr_foc1 rfl (guard_some rfl rfl rfl) (look_tmp rfl) (fun h => h) ?_
    refine o_sneq rfl rfl (guard_some rfl rfl rfl) (look_tmp rfl) (look_str (l := []) rfl (by decide)) (fun h => h) (fun _ => rfl) ?_
    refine o_pick rfl rfl (guard_some rfl rfl rfl) (look_tmp rfl) (look_tmp rfl) look_bool (fun h => h) (fun h1 h2 => pick_t ((fun h => h) h1) h2) (fun _ _ => rfl) ?_
    refine o_pick rfl rfl guard_none (look_tmp rfl) look_bool (look_tmp rfl) (fun _ => rfl) (fun _ _ => rfl) (fun h1 h2 => pick_f ((fun _ => rfl) h1) h2) ?_
    refine o_end ?_
    refine den_cond (look_tmp rfl) ?_ ?_
    · refine den_seq ?_
      refine den_region rfl ?_
      refine o_assign rfl rfl guard_none look_bool (fun _ => rfl) ?_
      refine o_end ?_
      refine den_code_ret ?_
      refine dene_ret ?_
      exact dene_res (res1 rfl (rv_tmp rfl))
    · refine den_skip ?_
      refine den_seq ?_
      refine den_seq ?_
      refine den_region rfl ?_
      refine o_move rfl rfl guard_none (look_tmp rfl) (fun _ => rfl) ?_
      refine o_eql rfl rfl guard_none (look_tmp rfl) (look_int rfl) (fun _ => rfl) (fun _ => rfl) ?_
      refine o_move rfl rfl guard_none (look_tmp rfl) (fun _ => rfl) ?_
      refine o_faddr field35_2 type2 (by decide) rfl rfl (guard_some rfl rfl rfl) (look_tmp rfl) (fun _ => rfl) ?_
      refine o_oloadi 0 rfl type2 T_api_Expr_foc2 rfl (guard_some rfl rfl rfl) (look_tmp rfl) (fun h => h) ?_
      refine o_lss rfl rfl (guard_some rfl rfl rfl) (look_tmp rfl) (look_int rfl) (fun h => h) (fun _ => rfl) ?_
      refine o_pick rfl rfl guard_none (look_tmp rfl) (look_tmp rfl) look_bool (fun _ => rfl) (fun h1 h2 => pick_t ((fun _ => rfl) h1) h2) (fun _ _ => rfl) ?_
      refine o_move rfl rfl guard_none (look_tmp rfl) (fun _ => rfl) ?_
      refine o_move rfl rfl (guard_some rfl rfl rfl) (look_tmp rfl) (fun _ => rfl) ?_
      refine o_eql rfl rfl (guard_some rfl rfl rfl) (look_tmp rfl) (look_int rfl) (fun h => h) (fun _ => rfl) ?_
      refine o_move rfl rfl (guard_some rfl rfl rfl) (look_tmp rfl) (fun h => h) ?_
      refine o_faddr field35_2 type2 (by decide) rfl rfl (guard_some rfl rfl rfl) (look_tmp rfl) (fun _ => rfl) ?_
      refine o_oloadi 0 rfl type2 T_api_Expr_foc2 rfl (guard_some rfl rfl rfl) (look_tmp rfl) (fun h => h) ?_
      refine o_neq rfl rfl (guard_some rfl rfl rfl) (look_tmp rfl) (look_int rfl) (fun h => h) (fun _ => rfl) ?_
      refine o_pick rfl rfl (guard_some rfl rfl rfl) (look_tmp rfl) (look_tmp rfl) look_bool (fun h => h) (fun h1 h2 => pick_t ((fun h => h) h1) h2) (fun _ _ => rfl) ?_
      refine o_move rfl rfl (guard_some rfl rfl rfl) (look_tmp rfl) (fun h => h) ?_
      refine o_faddr field35_2 type2 (by decide) rfl rfl (guard_some rfl rfl rfl) (look_tmp rfl) (fun _ => rfl) ?_
      refine o_oloadi 0 rfl type2 T_api_Expr_foc2 rfl (guard_some rfl rfl rfl) (look_tmp rfl) (fun h => h) ?_
      refine o_neq rfl rfl (guard_some rfl rfl rfl) (look_tmp rfl) (look_int rfl) (fun h => h) (fun _ => rfl) ?_
      refine o_pick rfl rfl (guard_some rfl rfl rfl) (look_tmp rfl) (look_tmp rfl) look_bool (fun h => h) (fun h1 h2 => pick_t ((fun h => h) h1) h2) (fun _ _ => rfl) ?_
      refine o_pick rfl rfl guard_none (look_tmp rfl) look_bool (look_tmp rfl) (fun _ => rfl) (fun _ _ => rfl) (fun h1 h2 => pick_f ((fun _ => rfl) h1) h2) ?_
      refine o_move rfl rfl guard_none (look_tmp rfl) (fun _ => rfl) ?_
      refine o_move rfl rfl (guard_some rfl rfl rfl) (look_tmp rfl) (fun _ => rfl) ?_
      refine o_neq rfl rfl (guard_some rfl rfl rfl) (look_tmp rfl) (look_int rfl) (fun h => h) (fun _ => rfl) ?_
      refine o_move rfl rfl (guard_some rfl rfl rfl) (look_tmp rfl) (fun h => h) ?_
      refine o_move rfl rfl (guard_some rfl rfl rfl) (look_tmp rfl) (fun _ => rfl) ?_
      refine o_neq rfl rfl (guard_some rfl rfl rfl) (look_tmp rfl) (look_int rfl) (fun h => h) (fun _ => rfl) ?_
      refine o_pick rfl rfl (guard_some rfl rfl rfl) (look_tmp rfl) (look_tmp rfl) look_bool (fun h => h) (fun h1 h2 => pick_t ((fun h => h) h1) h2) (fun _ _ => rfl) ?_
      refine o_move rfl rfl (guard_some rfl rfl rfl) (look_tmp rfl) (fun h => h) ?_
      refine o_faddr field35_2 type2 (by decide) rfl rfl (guard_some rfl rfl rfl) (look_tmp rfl) (fun _ => rfl) ?_
      refine o_oloadi 0 rfl type2 T_api_Expr_foc2 rfl (guard_some rfl rfl rfl) (look_tmp rfl) (fun h => h) ?_
      refine o_neq rfl rfl (guard_some rfl rfl rfl) (look_tmp rfl) (look_int rfl) (fun h => h) (fun _ => rfl) ?_
      refine o_pick rfl rfl (guard_some rfl rfl rfl) (look_tmp rfl) (look_tmp rfl) look_bool (fun h => h) (fun h1 h2 => pick_t ((fun h => h) h1) h2) (fun _ _ => rfl) ?_
      refine o_pick rfl rfl guard_none (look_tmp rfl) look_bool (look_tmp rfl) (fun _ => rfl) (fun _ _ => rfl) (fun h1 h2 => pick_f ((fun _ => rfl) h1) h2) ?_
      refine o_end ?_
      refine den_cond (look_tmp rfl) ?_ ?_
      · refine den_seq ?_
        refine den_region rfl ?_
        refine o_assign rfl rfl guard_none look_bool (fun _ => rfl) ?_
        refine o_end ?_
        refine den_code_ret ?_
        refine dene_ret ?_
        exact dene_res (res1 rfl (rv_tmp rfl))
      · refine den_skip ?_
        refine den_seq ?_
        refine den_seq ?_
        refine den_region rfl ?_
        refine o_move rfl rfl guard_none (look_tmp rfl) (fun _ => rfl) ?_
        refine o_eql rfl rfl guard_none (look_tmp rfl) (look_int rfl) (fun _ => rfl) (fun _ => rfl) ?_
        refine o_move rfl rfl guard_none (look_tmp rfl) (fun _ => rfl) ?_
        refine o_move rfl rfl (guard_some rfl rfl rfl) (look_tmp rfl) (fun _ => rfl) ?_
        refine o_eql rfl rfl (guard_some rfl rfl rfl) (look_tmp rfl) (look_int rfl) (fun h => h) (fun _ => rfl) ?_
        refine o_pick rfl rfl guard_none (look_tmp rfl) look_bool (look_tmp rfl) (fun _ => rfl) (fun _ _ => rfl) (fun h1 h2 => pick_f ((fun _ => rfl) h1) h2) ?_
        refine o_move rfl rfl guard_none (look_tmp rfl) (fun _ => rfl) ?_
        refine o_move rfl rfl (guard_some rfl rfl rfl) (look_tmp rfl) (fun _ => rfl) ?_
        refine o_eql rfl rfl (guard_some rfl rfl rfl) (look_tmp rfl) (look_int rfl) (fun h => h) (fun _ => rfl) ?_
        refine o_pick rfl rfl guard_none (look_tmp rfl) look_bool (look_tmp rfl) (fun _ => rfl) (fun _ _ => rfl) (fun h1 h2 => pick_f ((fun _ => rfl) h1) h2) ?_
        refine o_end ?_
        refine den_cond (look_tmp rfl) ?_ ?_
        · refine den_seq ?_
          refine den_region rfl ?_
          refine o_faddr field35_3 type2 (by decide) rfl rfl guard_none (look_tmp rfl) (fun _ => rfl) ?_
          refine o_oloadi 0 rfl type2 T_api_Expr_foc3 rfl guard_none (look_tmp rfl) (fun _ => rfl) ?_
          refine o_geq rfl rfl guard_none (look_tmp rfl) (look_int rfl) (fun _ => rfl) (fun _ => rfl) ?_
          refine o_move rfl rfl guard_none (look_tmp rfl) (fun _ => rfl) ?_
          refine o_faddr field35_4 type2 (by decide) rfl rfl (guard_some rfl rfl rfl) (look_tmp rfl) (fun _ => rfl) ?_
          refine o_oloadi 0 rfl type2 T_api_Expr_foc4 rfl (guard_some rfl rfl rfl) (look_tmp rfl) (fun h => h) ?_
          refine o_eql rfl rfl (guard_some rfl rfl rfl) (look_tmp rfl) (look_int rfl) (fun h => h) (fun _ => rfl) ?_
          refine o_move rfl rfl (guard_some rfl rfl rfl) (look_tmp rfl) (fun h => h) ?_
          refine o_faddr field35_4 type2 (by decide) rfl rfl (guard_some rfl rfl rfl) (look_tmp rfl) (fun _ => rfl) ?_
          refine o_oloadi 0 rfl type2 T_api_Expr_foc4 rfl (guard_some rfl rfl rfl) (look_tmp rfl) (fun h => h) ?_
          refine o_faddr field35_3 type2 (by decide) rfl rfl (guard_some rfl rfl rfl) (look_tmp rfl) (fun _ => rfl) ?_
          refine o_oloadi 0 rfl type2 T_api_Expr_foc3 rfl (guard_some rfl rfl rfl) (look_tmp rfl) (fun h => h) ?_
          refine o_geq rfl rfl (guard_some rfl rfl rfl) (look_tmp rfl) (look_tmp rfl) (fun h => h) (fun h => h) ?_
          refine o_pick rfl rfl (guard_some rfl rfl rfl) (look_tmp rfl) look_bool (look_tmp rfl) (fun h => h) (fun _ _ => rfl) (fun h1 h2 => pick_f ((fun h => h) h1) h2) ?_
          refine o_pick rfl rfl guard_none (look_tmp rfl) (look_tmp rfl) look_bool (fun _ => rfl) (fun h1 h2 => pick_t ((fun _ => rfl) h1) h2) (fun _ _ => rfl) ?_
          refine o_assign rfl rfl guard_none (look_tmp rfl) (fun _ => rfl) ?_
          refine o_lt (fun z5 => ?_)
          refine o_end ?_
          refine den_code_ret ?_
          refine dene_ret ?_
          exact dene_res (res1 rfl (rv_tmp rfl))
        · refine den_skip ?_
          refine den_seq ?_
          refine den_seq ?_
          refine den_region rfl ?_
          refine o_move rfl rfl guard_none (look_tmp rfl) (fun _ => rfl) ?_
          refine o_eql rfl rfl guard_none (look_tmp rfl) (look_int rfl) (fun _ => rfl) (fun _ => rfl) ?_
          refine o_end ?_
          refine den_cond (look_tmp rfl) ?_ ?_
          · refine den_seq ?_
            refine den_region rfl ?_
            refine o_faddr field35_3 type2 (by decide) rfl rfl guard_none (look_tmp rfl) (fun _ => rfl) ?_
            refine o_oloadi 0 rfl type2 T_api_Expr_foc3 rfl guard_none (look_tmp rfl) (fun _ => rfl) ?_
            refine o_eql rfl rfl guard_none (look_tmp rfl) (look_int rfl) (fun _ => rfl) (fun _ => rfl) ?_
            refine o_move rfl rfl guard_none (look_tmp rfl) (fun _ => rfl) ?_
            refine o_faddr field35_4 type2 (by decide) rfl rfl (guard_some rfl rfl rfl) (look_tmp rfl) (fun _ => rfl) ?_
            refine o_oloadi 0 rfl type2 T_api_Expr_foc4 rfl (guard_some rfl rfl rfl) (look_tmp rfl) (fun h => h) ?_
            refine o_geq rfl rfl (guard_some rfl rfl rfl) (look_tmp rfl) (look_int rfl) (fun h => h) (fun _ => rfl) ?_
            refine o_pick rfl rfl guard_none (look_tmp rfl) (look_tmp rfl) look_bool (fun _ => rfl) (fun h1 h2 => pick_t ((fun _ => rfl) h1) h2) (fun _ _ => rfl) ?_
            refine o_assign rfl rfl guard_none (look_tmp rfl) (fun _ => rfl) ?_
            refine o_lt (fun z6 => ?_)
            refine o_end ?_
            refine den_code_ret ?_
            refine dene_ret ?_
            exact dene_res (res1 rfl (rv_tmp rfl))
          · refine den_skip ?_
            refine den_seq ?_
            refine den_region rfl ?_
            refine o_faddr field35_3 type2 (by decide) rfl rfl guard_none (look_tmp rfl) (fun _ => rfl) ?_
            refine o_oloadi 0 rfl type2 T_api_Expr_foc3 rfl guard_none (look_tmp rfl) (fun _ => rfl) ?_
            refine o_eql rfl rfl guard_none (look_tmp rfl) (look_int rfl) (fun _ => rfl) (fun _ => rfl) ?_
            refine o_move rfl rfl guard_none (look_tmp rfl) (fun _ => rfl) ?_
            refine o_faddr field35_4 type2 (by decide) rfl rfl (guard_some rfl rfl rfl) (look_tmp rfl) (fun _ => rfl) ?_
            refine o_oloadi 0 rfl type2 T_api_Expr_foc4 rfl (guard_some rfl rfl rfl) (look_tmp rfl) (fun h => h) ?_
            refine o_eql rfl rfl (guard_some rfl rfl rfl) (look_tmp rfl) (look_int rfl) (fun h => h) (fun _ => rfl) ?_
            refine o_pick rfl rfl guard_none (look_tmp rfl) (look_tmp rfl) look_bool (fun _ => rfl) (fun h1 h2 => pick_t ((fun _ => rfl) h1) h2) (fun _ _ => rfl) ?_
            refine o_assign rfl rfl guard_none (look_tmp rfl) (fun _ => rfl) ?_
            refine o_end ?_
            refine den_code_ret ?_
            exact dene_res (res1 rfl (rv_tmp rfl))

theorem ref07_Check_ok (fuel : Nat)  (e_0 : T_api_Expr) : FunOk Tryd.prog 10 [⟨T_api_Expr_rep, e_0, true⟩] (ref07_Check fuel e_0) (Rep.int .i64) := by
  refine fun_ok Tryd.func10 rfl Tryd.ntmps10 rfl (all_cons rfl all_nil) (fun w0 ok0 => ?_)
  refine den_seq ?_
  refine den_region rfl ?_
  refine o_box rfl rfl (look_tmp rfl) rfl (fun z1 => ?_)
  refine o_assign rfl rfl guard_none (look_int rfl) (fun _ => rfl) ?_
  refine o_end ?_
  refine den_seq ?_
  refine den_seq ?_
  refine den_region rfl ?_
  refine o_oloadi 0 rfl type35 foc_self rfl guard_none (look_tmp rfl) (fun _ => rfl) ?_
  refine o_call rfl rfl rfl callable21 (looks_cons (look_tmp rfl) (fun _ => rfl) (looks_nil)) (ref07_Depth_ok fuel fuel _) (fun z2 => ?_)
  refine o_gtr rfl rfl guard_none (look_tmp rfl) (look_int rfl) (fun _ => rfl) (fun _ => rfl) ?_
  refine o_end ?_
  refine den_cond (look_tmp rfl) ?_ ?_
  · refine den_seq ?_
    refine den_region rfl ?_
    refine o_assign rfl rfl guard_none (look_int rfl) (fun _ => rfl) ?_
    refine o_end ?_
    refine den_code_ret ?_
    refine dene_ret ?_
    exact dene_res (res1 rfl (rv_tmp rfl))
  · refine den_skip ?_
    refine den_seq ?_
    refine den_region rfl ?_
    refine o_oloadi 0 rfl type35 foc_self rfl guard_none (look_tmp rfl) (fun _ => rfl) ?_
    refine o_weak (H' := [] ++ ([] ++ [.obj true z1 0 (.dat T_api_Expr_rep) e_0])) (sub_pick [0] rfl rfl) ?_
    refine o_callU rfl rfl rfl rfl rfl callable22 (looks_cons (look_tmp rfl) (fun _ => rfl) (looks_nil)) .nil (ref07_All_ok fuel fuel e_0) (fun _ _ => (wr_v wr_n)) (fun z4α z3 => ?_)
    refine o_weak (H' := [.vec z4α (T_api_Expr_rep) z3, .obj true z1 0 (.dat T_api_Expr_rep) e_0]) (sub_pick [0, 1] rfl rfl) ?_
    refine o_assign rfl rfl guard_none (look_tmp rfl) (fun _ => rfl) ?_
    refine o_end ?_
    refine den_seq ?_
    refine den_seq ?_
    refine den_region rfl ?_
    refine o_move rfl rfl guard_none (look_tmp rfl) (fun _ => rfl) ?_
    refine o_vlen 0 (.inl rfl) Tryd.underlying33 rfl guard_none (look_tmp rfl) (fun _ => rfl) ?_
    refine o_gtr rfl rfl guard_none (look_tmp rfl) (look_int rfl) (fun _ => rfl) (fun _ => rfl) ?_
    refine o_end ?_
    refine den_cond (look_tmp rfl) ?_ ?_
    · refine den_seq ?_
      refine den_region rfl ?_
      refine o_assign rfl rfl guard_none (look_int rfl) (fun _ => rfl) ?_
      refine o_end ?_
      refine den_code_ret ?_
      refine dene_ret ?_
      exact dene_res (res1 rfl (rv_tmp rfl))
    · refine den_skip ?_
      refine den_seq ?_
      refine den_seq ?_
      refine den_region rfl ?_
      refine o_assign rfl rfl guard_none (look_int rfl) (fun _ => rfl) ?_
      refine o_end ?_
      refine den_both (fun z6 => []) (fun z6 => []) ?_ (fun z6 => ?_)
      · refine den_block ?_
        refine den_loop (ref07_Check_L1b z3) (fun z7 => [(4, ⟨Rep.int .i64, z7, true⟩), (3, ⟨Rep.val1, z4α, true⟩)]) (fun z7 => [.vec z4α (T_api_Expr_rep) z3]) 0 (fun z7 => ?_) ((Sub.trans (sub_pick [0] rfl rfl) (sub_env (sube_cons rfl (sube_cons rfl (sube_nil))))))
        refine den_seq ?_
        refine den_seq ?_
        refine den_region rfl ?_
        refine o_move rfl rfl guard_none (look_tmp rfl) (fun _ => rfl) ?_
        refine o_move rfl rfl guard_none (look_tmp rfl) (fun _ => rfl) ?_
        refine o_vlen 0 (.inl rfl) Tryd.underlying33 rfl guard_none (look_tmp rfl) (fun _ => rfl) ?_
        refine o_lss rfl rfl guard_none (look_tmp rfl) (look_tmp rfl) (fun _ => rfl) (fun _ => rfl) ?_
        refine o_end ?_
        refine den_cond (look_tmp rfl) ?_ ?_
        · refine den_skip ?_
          refine den_seq ?_
          refine den_block ?_
          refine den_seq ?_
          refine den_region rfl ?_
          refine o_move rfl rfl guard_none (look_tmp rfl) (fun _ => rfl) ?_
          refine o_move rfl rfl guard_none (look_tmp rfl) (fun _ => rfl) ?_
          refine o_vaddrh 0 (.inl rfl) Tryd.underlying33 type35 rfl (look_tmp rfl) (look_tmp rfl) rfl rfl (fun z8 h_z8 => ?_)
          refine o_vfaddr (j := z8) (u := (z3.getD z8 T_api_Expr_zero)) 0 (.inl rfl) field35_0 type3 (by decide) rfl guard_none (fun _ => at_get rfl h_z8) (look_tmp rfl) (fun _ => rfl) ?_
          refine o_vloadf (j := z8) (u := (z3.getD z8 T_api_Expr_zero)) 0 (.inl rfl) type3 T_api_Expr_foc0 rfl guard_none (fun _ => at_get rfl h_z8) (look_tmp rfl) (fun _ => rfl) ?_
          refine o_call rfl rfl rfl callable23 (looks_cons (look_tmp rfl) (fun _ => rfl) (looks_nil)) (ref07_Kids_ok _) (fun z9 => ?_)
          refine o_assign rfl rfl guard_none (look_tmp rfl) (fun _ => rfl) ?_
          refine o_end ?_
          refine den_seq ?_
          refine den_region rfl ?_
          refine o_move rfl rfl guard_none (look_tmp rfl) (fun _ => rfl) ?_
          refine o_eql rfl rfl guard_none (look_tmp rfl) (look_int rfl) (fun _ => rfl) (fun _ => rfl) ?_
          refine o_move rfl rfl guard_none (look_tmp rfl) (fun _ => rfl) ?_
          refine o_move rfl rfl (guard_some rfl rfl rfl) (look_tmp rfl) (fun _ => rfl) ?_
          refine o_geq rfl rfl (guard_some rfl rfl rfl) (look_tmp rfl) (look_int rfl) (fun h => h) (fun _ => rfl) ?_
          refine o_move rfl rfl (guard_some rfl rfl rfl) (look_tmp rfl) (fun h => h) ?_
          refine o_move rfl rfl (guard_some rfl rfl rfl) (look_tmp rfl) (fun _ => rfl) ?_
          refine o_move rfl rfl (guard_some rfl rfl rfl) (look_tmp rfl) (fun _ => rfl) ?_
          refine o_vaddrgh 0 (.inl rfl) Tryd.underlying33 type35 rfl (guard_some rfl rfl rfl) (look_tmp rfl) (look_tmp rfl) (fun h => h) (fun h => h) (fun z10 h_z10 => ?_)
          refine o_vfaddr (j := z10) (u := (z3.getD z10 T_api_Expr_zero)) 0 (.inl rfl) field35_5 type33 (by decide) rfl (guard_some rfl rfl rfl) (fun h => atg_get rfl h_z10 ((fun h => h) h)) (look_tmp rfl) (fun h => h) ?_
          refine o_vloadf (j := z10) (u := (z3.getD z10 T_api_Expr_zero)) 0 (.inl rfl) type33 T_api_Expr_foc5 rfl (guard_some rfl rfl rfl) (fun h => atg_get rfl h_z10 ((fun h => h) h)) (look_tmp rfl) (fun h => h) ?_
          refine o_llen Tryd.underlying33 rfl rfl (guard_some rfl rfl rfl) (look_tmp rfl) (fun h => h) ?_
          refine o_move rfl rfl (guard_some rfl rfl rfl) (look_tmp rfl) (fun _ => rfl) ?_
          refine o_neq rfl rfl (guard_some rfl rfl rfl) (look_tmp rfl) (look_tmp rfl) (fun h => h) (fun h => h) ?_
          refine o_pick rfl rfl (guard_some rfl rfl rfl) (look_tmp rfl) (look_tmp rfl) look_bool (fun h => h) (fun h1 h2 => pick_t ((fun h => h) h1) h2) (fun _ _ => rfl) ?_
          refine o_pick rfl rfl guard_none (look_tmp rfl) look_bool (look_tmp rfl) (fun _ => rfl) (fun _ _ => rfl) (fun h1 h2 => pick_f ((fun _ => rfl) h1) h2) ?_
          refine o_move rfl rfl guard_none (look_tmp rfl) (fun _ => rfl) ?_
          refine o_move rfl rfl (guard_some rfl rfl rfl) (look_tmp rfl) (fun _ => rfl) ?_
          refine o_eql rfl rfl (guard_some rfl rfl rfl) (look_tmp rfl) (look_int rfl) (fun h => h) (fun _ => rfl) ?_
          refine o_move rfl rfl (guard_some rfl rfl rfl) (look_tmp rfl) (fun h => h) ?_
          refine o_move rfl rfl (guard_some rfl rfl rfl) (look_tmp rfl) (fun _ => rfl) ?_
          refine o_move rfl rfl (guard_some rfl rfl rfl) (look_tmp rfl) (fun _ => rfl) ?_
          refine o_vaddrgh 0 (.inl rfl) Tryd.underlying33 type35 rfl (guard_some rfl rfl rfl) (look_tmp rfl) (look_tmp rfl) (fun h => h) (fun h => h) (fun z11 h_z11 => ?_)
          refine o_vload (j := z11) (u := (z3.getD z11 T_api_Expr_zero)) 0 (.inl rfl) type35 rfl (guard_some rfl rfl rfl) (fun h => atg_get rfl h_z11 ((fun h => h) h)) (look_tmp rfl) (fun h => h) ?_
          refine o_callg rfl rfl rfl (guard_some rfl rfl rfl) callable24 (looks_cons (look_tmp rfl) (fun h => h) (looks_nil)) (ref07_set_ok _) (fun z12 => ?_)
          refine o_not rfl rfl (guard_some rfl rfl rfl) (look_tmp rfl) (fun h => h) ?_
          refine o_pick rfl rfl (guard_some rfl rfl rfl) (look_tmp rfl) (look_tmp rfl) look_bool (fun h => h) (fun h1 h2 => pick_t ((fun h => h) h1) h2) (fun _ _ => rfl) ?_
          refine o_pick rfl rfl guard_none (look_tmp rfl) look_bool (look_tmp rfl) (fun _ => rfl) (fun _ _ => rfl) (fun h1 h2 => pick_f ((fun _ => rfl) h1) h2) ?_
          refine o_move rfl rfl guard_none (look_tmp rfl) (fun _ => rfl) ?_
          refine o_move rfl rfl (guard_some rfl rfl rfl) (look_tmp rfl) (fun _ => rfl) ?_
          refine o_move rfl rfl (guard_some rfl rfl rfl) (look_tmp rfl) (fun _ => rfl) ?_
          refine o_vaddrgh 0 (.inl rfl) Tryd.underlying33 type35 rfl (guard_some rfl rfl rfl) (look_tmp rfl) (look_tmp rfl) (fun h => h) (fun h => h) (fun z13 h_z13 => ?_)
          refine o_vload (j := z13) (u := (z3.getD z13 T_api_Expr_zero)) 0 (.inl rfl) type35 rfl (guard_some rfl rfl rfl) (fun h => atg_get rfl h_z13 ((fun h => h) h)) (look_tmp rfl) (fun h => h) ?_
          refine o_callg rfl rfl rfl (guard_some rfl rfl rfl) callable25 (looks_cons (look_tmp rfl) (fun h => h) (looks_nil)) (ref07_fits_ok _) (fun z14 => ?_)
          refine o_not rfl rfl (guard_some rfl rfl rfl) (look_tmp rfl) (fun h => h) ?_
          refine o_pick rfl rfl guard_none (look_tmp rfl) look_bool (look_tmp rfl) (fun _ => rfl) (fun _ _ => rfl) (fun h1 h2 => pick_f ((fun _ => rfl) h1) h2) ?_
          refine o_end ?_
          refine den_cond (look_tmp rfl) ?_ ?_
          · refine den_seq ?_
            refine den_region rfl ?_
            refine o_assign rfl rfl guard_none (look_int rfl) (fun _ => rfl) ?_
            refine o_end ?_
            refine den_code_ret ?_
            refine dene_ret ?_
            refine dene_loop (by simp) ?_
            refine dene_ret ?_
            refine dene_both (by simp) ?_
            refine dene_ret ?_
            exact dene_res (res1 rfl (rv_tmp rfl))
          · refine den_skip ?_
            refine den_blkend ?_
            refine den_region rfl ?_
            refine o_move rfl rfl guard_none (look_tmp rfl) (fun _ => rfl) ?_
            refine o_add rfl rfl guard_none (look_tmp rfl) (look_int rfl) (fun _ => rfl) (fun _ => rfl) ?_
            refine o_assign rfl rfl guard_none (look_tmp rfl) (fun _ => rfl) ?_
            refine o_end ?_
            refine den_next ((sub_env (sube_cons rfl (sube_cons rfl (sube_nil)))))
        · refine den_code_exit ?_
          refine dene_out rfl ?_
          refine dene_loop (by simp) ?_
          refine dene_to rfl ?_
          refine den_endl ((Sub.trans (sub_pick [] rfl rfl) (sub_env (sube_nil))))
      refine den_seq ?_
      refine den_region rfl ?_
      refine o_assign rfl rfl guard_none (look_int rfl) (fun _ => rfl) ?_
      refine o_end ?_
      refine den_code_ret ?_
      exact dene_res (res1 rfl (rv_tmp rfl))

theorem law37_truth_ok  (e_0 : T_api_Expr) : FunOk Tryd.prog 11 [⟨T_api_Expr_rep, e_0, true⟩] (law37_truth e_0) (Rep.bool) := by
  refine fun_ok Tryd.func11 rfl Tryd.ntmps11 rfl (all_cons rfl all_nil) (fun w0 ok0 => ?_)
  refine den_seq ?_
  refine den_region rfl ?_
  refine o_box rfl rfl (look_tmp rfl) rfl (fun z1 => ?_)
  refine o_assign rfl rfl guard_none look_bool (fun _ => rfl) ?_
  refine o_end ?_
  refine den_seq ?_
  refine den_region rfl ?_
  refine o_faddr field35_0 type3 (by decide) rfl rfl guard_none (look_tmp rfl) (fun _ => rfl) ?_
  refine o_oloadi 0 rfl type3 T_api_Expr_foc0 rfl guard_none (look_tmp rfl) (fun _ => rfl) ?_
  refine o_eql rfl rfl guard_none (look_tmp rfl) (look_int rfl) (fun _ => rfl) (fun _ => rfl) ?_
  refine o_move rfl rfl guard_none (look_tmp rfl) (fun _ => rfl) ?_
  refine o_faddr field35_2 type2 (by decide) rfl rfl (guard_some rfl rfl rfl) (look_tmp rfl) (fun _ => rfl) ?_
  refine o_oloadi 0 rfl type2 T_api_Expr_foc2 rfl (guard_some rfl rfl rfl) (look_tmp rfl) (fun h => h) ?_
  refine o_eql rfl rfl (guard_some rfl rfl rfl) (look_tmp rfl) (look_int rfl) (fun h => h) (fun _ => rfl) ?_
  refine o_pick rfl rfl guard_none (look_tmp rfl) (look_tmp rfl) look_bool (fun _ => rfl) (fun h1 h2 => pick_t ((fun _ => rfl) h1) h2) (fun _ _ => rfl) ?_
  refine o_assign rfl rfl guard_none (look_tmp rfl) (fun _ => rfl) ?_
  refine o_end ?_
  refine den_code_ret ?_
  exact dene_res (res1 rfl (rv_tmp rfl))

theorem ref01_Decimal_ok  (n_0 : Int) : FunOk Tryd.prog 6 [⟨Rep.int .i64, n_0, true⟩] (ref01_Decimal n_0) (Rep.str) := by
  refine fun_ok Tryd.func6 rfl Tryd.ntmps6 rfl (all_cons rfl all_nil) (fun w0 ok0 => ?_)
  refine den_seq ?_
  refine den_region rfl ?_
  refine o_assign rfl rfl guard_none (look_str (l := []) rfl (by decide)) (fun _ => rfl) ?_
  refine o_end ?_
  refine den_seq ?_
  refine den_seq ?_
  refine den_region rfl ?_
  refine o_move rfl rfl guard_none (look_tmp rfl) (fun _ => rfl) ?_
  refine o_eql rfl rfl guard_none (look_tmp rfl) (look_int rfl) (fun _ => rfl) (fun _ => rfl) ?_
  refine o_end ?_
  refine den_cond (look_tmp rfl) ?_ ?_
  · refine den_seq ?_
    refine den_region rfl ?_
    refine o_assign rfl rfl guard_none (look_str (l := [48]) rfl (by decide)) (fun _ => rfl) ?_
    refine o_end ?_
    refine den_code_ret ?_
    refine dene_ret ?_
    exact dene_res (res1 rfl (rv_tmp rfl))
  · refine den_skip ?_
    refine den_seq ?_
    refine den_region rfl ?_
    refine o_assign rfl rfl guard_none (look_str (l := []) rfl (by decide)) (fun _ => rfl) ?_
    refine o_end ?_
    refine den_seq ?_
    refine den_seq ?_
    refine den_region rfl ?_
    refine o_move rfl rfl guard_none (look_tmp rfl) (fun _ => rfl) ?_
    refine o_assign rfl rfl guard_none (look_tmp rfl) (fun _ => rfl) ?_
    refine o_end ?_
    refine den_bind (fun z1 => [(3, ⟨Rep.str, z1, true⟩), (0, ⟨Rep.int .i64, n_0, true⟩)]) (fun z1 => []) ?_ (fun z1 => ?_)
    · refine den_block ?_
      refine den_loop (ref01_Decimal_L1b ) (fun z3 => [(3, ⟨Rep.str, z3.1, true⟩), (4, ⟨Rep.int .i64, z3.2, true⟩), (0, ⟨Rep.int .i64, n_0, true⟩)]) (fun z3 => []) (([] : Bytes), n_0) (fun z3 => ?_) ((sub_env (sube_cons rfl (sube_cons rfl (sube_cons rfl (sube_nil))))))
      refine den_seq ?_
      refine den_seq ?_
      refine den_region rfl ?_
      refine o_move rfl rfl guard_none (look_tmp rfl) (fun _ => rfl) ?_
      refine o_neq rfl rfl guard_none (look_tmp rfl) (look_int rfl) (fun _ => rfl) (fun _ => rfl) ?_
      refine o_end ?_
      refine den_cond (look_tmp rfl) ?_ ?_
      · refine den_skip ?_
        refine den_seq ?_
        refine den_block ?_
        refine den_seq ?_
        refine den_region rfl ?_
        refine o_move rfl rfl guard_none (look_tmp rfl) (fun _ => rfl) ?_
        refine o_rem (by decide) rfl rfl guard_none (look_tmp rfl) (look_int rfl) (fun _ => rfl) (fun _ => rfl) ?_
        refine o_assign rfl rfl guard_none (look_tmp rfl) (fun _ => rfl) ?_
        refine o_end ?_
        refine den_seq ?_
        refine den_seq ?_
        refine den_region rfl ?_
        refine o_move rfl rfl guard_none (look_tmp rfl) (fun _ => rfl) ?_
        refine o_lss rfl rfl guard_none (look_tmp rfl) (look_int rfl) (fun _ => rfl) (fun _ => rfl) ?_
        refine o_end ?_
        refine den_cond (look_tmp rfl) ?_ ?_
        · refine den_region rfl ?_
          refine o_move rfl rfl guard_none (look_tmp rfl) (fun _ => rfl) ?_
          refine o_neg rfl rfl guard_none (look_tmp rfl) (fun _ => rfl) ?_
          refine o_assign rfl rfl guard_none (look_tmp rfl) (fun _ => rfl) ?_
          refine o_lt (fun d4 => ?_)
          refine o_end ?_
          refine den_region rfl ?_
          refine o_move rfl rfl guard_none (look_tmp rfl) (fun _ => rfl) ?_
          refine o_add rfl rfl guard_none (look_int rfl) (look_tmp rfl) (fun _ => rfl) (fun _ => rfl) ?_
          refine o_conv Tryd.underlying2 Tryd.underlying5 rfl rfl guard_none (look_tmp rfl) (fun _ => rfl) ?_
          refine o_bslice Tryd.underlying53 (info_i info5) (info_z info5) type5 rfl rfl rfl rfl rfl rfl guard_none (looksL_cons (look_tmp rfl) (fun _ => rfl) (looksL_nil)) ?_
          refine o_bts Tryd.underlying53 Tryd.underlying5 Tryd.underlying9 rfl rfl guard_none (look_tmp rfl) (fun _ => rfl) ?_
          refine o_move rfl rfl guard_none (look_tmp rfl) (fun _ => rfl) ?_
          refine o_sadd rfl rfl (look_tmp rfl) (look_tmp rfl) rfl rfl (fun z5 => ?_)
          refine o_assign rfl rfl guard_none (look_tmp rfl) (fun _ => rfl) ?_
          refine o_end ?_
          refine den_blkend ?_
          refine den_region rfl ?_
          refine o_move rfl rfl guard_none (look_tmp rfl) (fun _ => rfl) ?_
          refine o_quo rfl rfl guard_none (look_tmp rfl) (look_int rfl) (fun _ => rfl) (fun _ => rfl) (by decide) ?_
          refine o_assign rfl rfl guard_none (look_tmp rfl) (fun _ => rfl) ?_
          refine o_end ?_
          refine den_next ((sub_env (sube_cons rfl (sube_cons rfl (sube_cons rfl (sube_nil))))))
        · refine den_skip ?_
          refine den_region rfl ?_
          refine o_move rfl rfl guard_none (look_tmp rfl) (fun _ => rfl) ?_
          refine o_add rfl rfl guard_none (look_int rfl) (look_tmp rfl) (fun _ => rfl) (fun _ => rfl) ?_
          refine o_conv Tryd.underlying2 Tryd.underlying5 rfl rfl guard_none (look_tmp rfl) (fun _ => rfl) ?_
          refine o_bslice Tryd.underlying53 (info_i info5) (info_z info5) type5 rfl rfl rfl rfl rfl rfl guard_none (looksL_cons (look_tmp rfl) (fun _ => rfl) (looksL_nil)) ?_
          refine o_bts Tryd.underlying53 Tryd.underlying5 Tryd.underlying9 rfl rfl guard_none (look_tmp rfl) (fun _ => rfl) ?_
          refine o_move rfl rfl guard_none (look_tmp rfl) (fun _ => rfl) ?_
          refine o_sadd rfl rfl (look_tmp rfl) (look_tmp rfl) rfl rfl (fun z6 => ?_)
          refine o_assign rfl rfl guard_none (look_tmp rfl) (fun _ => rfl) ?_
          refine o_end ?_
          refine den_blkend ?_
          refine den_region rfl ?_
          refine o_move rfl rfl guard_none (look_tmp rfl) (fun _ => rfl) ?_
          refine o_quo rfl rfl guard_none (look_tmp rfl) (look_int rfl) (fun _ => rfl) (fun _ => rfl) (by decide) ?_
          refine o_assign rfl rfl guard_none (look_tmp rfl) (fun _ => rfl) ?_
          refine o_end ?_
          refine den_next ((sub_env (sube_cons rfl (sube_cons rfl (sube_cons rfl (sube_nil))))))
      · refine den_code_exit ?_
        refine dene_out rfl ?_
        refine dene_loop (by simp) ?_
        refine dene_to rfl ?_
        refine den_end ((sub_env (sube_cons rfl (sube_cons rfl (sube_nil)))))
    refine den_seq ?_
    refine den_seq ?_
    refine den_region rfl ?_
    refine o_move rfl rfl guard_none (look_tmp rfl) (fun _ => rfl) ?_
    refine o_lss rfl rfl guard_none (look_tmp rfl) (look_int rfl) (fun _ => rfl) (fun _ => rfl) ?_
    refine o_end ?_
    refine den_cond (look_tmp rfl) ?_ ?_
    · refine den_region rfl ?_
      refine o_move rfl rfl guard_none (look_tmp rfl) (fun _ => rfl) ?_
      refine o_sadd rfl rfl (look_str (l := [45]) rfl (by decide)) (look_tmp rfl) rfl rfl (fun z2 => ?_)
      refine o_assign rfl rfl guard_none (look_tmp rfl) (fun _ => rfl) ?_
      refine o_end ?_
      refine den_seq ?_
      refine den_region rfl ?_
      refine o_move rfl rfl guard_none (look_tmp rfl) (fun _ => rfl) ?_
      refine o_assign rfl rfl guard_none (look_tmp rfl) (fun _ => rfl) ?_
      refine o_end ?_
      refine den_code_ret ?_
      exact dene_res (res1 rfl (rv_tmp rfl))
    · refine den_skip ?_
      refine den_seq ?_
      refine den_region rfl ?_
      refine o_move rfl rfl guard_none (look_tmp rfl) (fun _ => rfl) ?_
      refine o_assign rfl rfl guard_none (look_tmp rfl) (fun _ => rfl) ?_
      refine o_end ?_
      refine den_code_ret ?_
      exact dene_res (res1 rfl (rv_tmp rfl))

theorem ref09_leaf_ok  (e_0 : T_api_Expr) : FunOk Tryd.prog 27 [⟨T_api_Expr_rep, e_0, true⟩] (ref09_leaf e_0) (Rep.str) := by
  refine fun_ok Tryd.func27 rfl Tryd.ntmps27 rfl (all_cons rfl all_nil) (fun w0 ok0 => ?_)
  refine den_seq ?_
  refine den_region rfl ?_
  refine o_box rfl rfl (look_tmp rfl) rfl (fun z1 => ?_)
  refine o_assign rfl rfl guard_none (look_str (l := []) rfl (by decide)) (fun _ => rfl) ?_
  refine o_end ?_
  refine den_seq ?_
  refine den_seq ?_
  refine den_region rfl ?_
  refine o_faddr field35_0 type3 (by decide) rfl rfl guard_none (look_tmp rfl) (fun _ => rfl) ?_
  refine o_oloadi 0 rfl type3 T_api_Expr_foc0 rfl guard_none (look_tmp rfl) (fun _ => rfl) ?_
  refine o_eql rfl rfl guard_none (look_tmp rfl) (look_int rfl) (fun _ => rfl) (fun _ => rfl) ?_
  refine o_end ?_
  refine den_cond (look_tmp rfl) ?_ ?_
  · refine den_seq ?_
    refine den_region rfl ?_
    refine o_faddr field35_2 type2 (by decide) rfl rfl guard_none (look_tmp rfl) (fun _ => rfl) ?_
    refine o_oloadi 0 rfl type2 T_api_Expr_foc2 rfl guard_none (look_tmp rfl) (fun _ => rfl) ?_
    refine o_call rfl rfl rfl callable6 (looks_cons (look_tmp rfl) (fun _ => rfl) (looks_nil)) (ref01_Decimal_ok _) (fun z2 => ?_)
    refine o_assign rfl rfl guard_none (look_tmp rfl) (fun _ => rfl) ?_
    refine o_end ?_
    refine den_code_ret ?_
    refine dene_ret ?_
    exact dene_res (res1 rfl (rv_tmp rfl))
  · refine den_skip ?_
    refine den_seq ?_
    refine den_seq ?_
    refine den_region rfl ?_
    refine o_faddr field35_0 type3 (by decide) rfl rfl guard_none (look_tmp rfl) (fun _ => rfl) ?_
    refine o_oloadi 0 rfl type3 T_api_Expr_foc0 rfl guard_none (look_tmp rfl) (fun _ => rfl) ?_
    refine o_eql rfl rfl guard_none (look_tmp rfl) (look_int rfl) (fun _ => rfl) (fun _ => rfl) ?_
    refine o_move rfl rfl guard_none (look_tmp rfl) (fun _ => rfl) ?_
    refine o_faddr field35_2 type2 (by decide) rfl rfl (guard_some rfl rfl rfl) (look_tmp rfl) (fun _ => rfl) ?_
    refine o_oloadi 0 rfl type2 T_api_Expr_foc2 rfl (guard_some rfl rfl rfl) (look_tmp rfl) (fun h => h) ?_
    refine o_eql rfl rfl (guard_some rfl rfl rfl) (look_tmp rfl) (look_int rfl) (fun h => h) (fun _ => rfl) ?_
    refine o_pick rfl rfl guard_none (look_tmp rfl) (look_tmp rfl) look_bool (fun _ => rfl) (fun h1 h2 => pick_t ((fun _ => rfl) h1) h2) (fun _ _ => rfl) ?_
    refine o_end ?_
    refine den_cond (look_tmp rfl) ?_ ?_
    · refine den_seq ?_
      refine den_region rfl ?_
      refine o_assign rfl rfl guard_none (look_str (l := [116, 114, 117, 101]) rfl (by decide)) (fun _ => rfl) ?_
      refine o_end ?_
      refine den_code_ret ?_
      refine dene_ret ?_
      exact dene_res (res1 rfl (rv_tmp rfl))
    · refine den_skip ?_
      refine den_seq ?_
      refine den_seq ?_
      refine den_region rfl ?_
      refine o_faddr field35_0 type3 (by decide) rfl rfl guard_none (look_tmp rfl) (fun _ => rfl) ?_
      refine o_oloadi 0 rfl type3 T_api_Expr_foc0 rfl guard_none (look_tmp rfl) (fun _ => rfl) ?_
      refine o_eql rfl rfl guard_none (look_tmp rfl) (look_int rfl) (fun _ => rfl) (fun _ => rfl) ?_
      refine o_end ?_
      refine den_cond (look_tmp rfl) ?_ ?_
      · refine den_seq ?_
        refine den_region rfl ?_
        refine o_assign rfl rfl guard_none (look_str (l := [102, 97, 108, 115, 101]) rfl (by decide)) (fun _ => rfl) ?_
        refine o_end ?_
        refine den_code_ret ?_
        refine dene_ret ?_
        exact dene_res (res1 rfl (rv_tmp rfl))
      · refine den_skip ?_
        refine den_seq ?_
        refine den_seq ?_
        refine den_region rfl ?_
        refine o_faddr field35_0 type3 (by decide) rfl rfl guard_none (look_tmp rfl) (fun _ => rfl) ?_
        refine o_oloadi 0 rfl type3 T_api_Expr_foc0 rfl guard_none (look_tmp rfl) (fun _ => rfl) ?_
        refine o_eql rfl rfl guard_none (look_tmp rfl) (look_int rfl) (fun _ => rfl) (fun _ => rfl) ?_
        refine o_end ?_
        refine den_cond (look_tmp rfl) ?_ ?_
        · refine den_seq ?_
          refine den_region rfl ?_
          refine o_faddr field35_1 type9 (by decide) rfl rfl guard_none (look_tmp rfl) (fun _ => rfl) ?_
          refine o_oloadi 0 rfl type9 T_api_Expr_foc1 rfl guard_none (look_tmp rfl) (fun _ => rfl) ?_
          refine o_sadd rfl rfl (look_str (l := [34]) rfl (by decide)) (look_tmp rfl) rfl rfl (fun z3 => ?_)
          refine o_sadd rfl rfl (look_tmp rfl) (look_str (l := [34]) rfl (by decide)) rfl rfl (fun z4 => ?_)
          refine o_assign rfl rfl guard_none (look_tmp rfl) (fun _ => rfl) ?_
          refine o_end ?_
          refine den_code_ret ?_
          refine dene_ret ?_
          exact dene_res (res1 rfl (rv_tmp rfl))
        · refine den_skip ?_
          refine den_seq ?_
          refine den_seq ?_
          refine den_region rfl ?_
          refine o_faddr field35_0 type3 (by decide) rfl rfl guard_none (look_tmp rfl) (fun _ => rfl) ?_
          refine o_oloadi 0 rfl type3 T_api_Expr_foc0 rfl guard_none (look_tmp rfl) (fun _ => rfl) ?_
          refine o_eql rfl rfl guard_none (look_tmp rfl) (look_int rfl) (fun _ => rfl) (fun _ => rfl) ?_
          refine o_end ?_
          refine den_cond (look_tmp rfl) ?_ ?_
          · refine den_seq ?_
            refine den_region rfl ?_
            refine o_faddr field35_1 type9 (by decide) rfl rfl guard_none (look_tmp rfl) (fun _ => rfl) ?_
            refine o_oloadi 0 rfl type9 T_api_Expr_foc1 rfl guard_none (look_tmp rfl) (fun _ => rfl) ?_
            refine o_sadd rfl rfl (look_str (l := [115, 46]) rfl (by decide)) (look_tmp rfl) rfl rfl (fun z5 => ?_)
            refine o_assign rfl rfl guard_none (look_tmp rfl) (fun _ => rfl) ?_
            refine o_end ?_
            refine den_code_ret ?_
            refine dene_ret ?_
            exact dene_res (res1 rfl (rv_tmp rfl))
          · refine den_skip ?_
            refine den_seq ?_
            refine den_seq ?_
            refine den_region rfl ?_
            refine o_faddr field35_0 type3 (by decide) rfl rfl guard_none (look_tmp rfl) (fun _ => rfl) ?_
            refine o_oloadi 0 rfl type3 T_api_Expr_foc0 rfl guard_none (look_tmp rfl) (fun _ => rfl) ?_
            refine o_eql rfl rfl guard_none (look_tmp rfl) (look_int rfl) (fun _ => rfl) (fun _ => rfl) ?_
            refine o_end ?_
            refine den_cond (look_tmp rfl) ?_ ?_
            · refine den_seq ?_
              refine den_region rfl ?_
              refine o_faddr field35_1 type9 (by decide) rfl rfl guard_none (look_tmp rfl) (fun _ => rfl) ?_
              refine o_oloadi 0 rfl type9 T_api_Expr_foc1 rfl guard_none (look_tmp rfl) (fun _ => rfl) ?_
              refine o_sadd rfl rfl (look_str (l := [111, 46]) rfl (by decide)) (look_tmp rfl) rfl rfl (fun z6 => ?_)
              refine o_assign rfl rfl guard_none (look_tmp rfl) (fun _ => rfl) ?_
              refine o_end ?_
              refine den_code_ret ?_
              refine dene_ret ?_
              exact dene_res (res1 rfl (rv_tmp rfl))
            · refine den_skip ?_
              refine den_seq ?_
              refine den_seq ?_
              refine den_region rfl ?_
              refine o_faddr field35_0 type3 (by decide) rfl rfl guard_none (look_tmp rfl) (fun _ => rfl) ?_
              refine o_oloadi 0 rfl type3 T_api_Expr_foc0 rfl guard_none (look_tmp rfl) (fun _ => rfl) ?_
              refine o_eql rfl rfl guard_none (look_tmp rfl) (look_int rfl) (fun _ => rfl) (fun _ => rfl) ?_
              refine o_end ?_
              refine den_cond (look_tmp rfl) ?_ ?_
              · refine den_seq ?_
                refine den_open (fun z7 h_z7 => ?_)
                refine den_open (fun z8 h_z8 => ?_)
                refine den_open (fun z9 h_z9 => ?_)
                refine den_open (fun z10 h_z10 => ?_)
                refine den_open (fun z11 h_z11 => ?_)
                refine den_draw [(42, ⟨Rep.addr, (z1, 0 + 1), true⟩), (43, ⟨Rep.str, e_0.Name, true⟩), (44, ⟨Rep.str, z7, true⟩), (45, ⟨Rep.str, z8, true⟩), (46, ⟨Rep.addr, (z1, 0 + 4), true⟩), (47, ⟨Rep.int .i64, e_0.Hi, true⟩), (48, ⟨Rep.str, z9, true⟩), (49, ⟨Rep.str, z10, true⟩), (50, ⟨Rep.str, z11, true⟩), (2, ⟨Rep.str, z11, true⟩)] mixed rfl rfl ⟨?_, ?_, ?_, ?_, ?_, ?_, ?_, ?_, ?_, ?_, trivial⟩ ?_
                · intro S hc hk hp
                  refine o_faddr field35_1 type9 (by decide) rfl rfl guard_none (look_o rfl rfl) (fun _ => rfl) ?_
                  exact d_end rfl rfl rfl
                · intro S hc hk hp
                  refine o_oloadi 0 rfl type9 T_api_Expr_foc1 rfl guard_none (look_d rfl rfl (pr hp 0 rfl rfl)) (fun _ => rfl) ?_
                  exact d_end rfl rfl rfl
                · intro S hc hk hp
                  refine o_from (bind_eqO h_z7) ?_
                  refine o_sadd rfl rfl (look_str (l := [116, 105, 109, 101, 115, 40]) rfl (by decide)) (look_d rfl rfl (pr hp 0 rfl rfl)) rfl rfl (o_eqO ?_)
                  exact d_end rfl rfl rfl
                · intro S hc hk hp
                  refine o_from (bind_eqO h_z8) ?_
                  refine o_sadd rfl rfl (look_d rfl rfl (pr hp 0 rfl rfl)) (look_str (l := [44, 32]) rfl (by decide)) rfl rfl (o_eqO ?_)
                  exact d_end rfl rfl rfl
                · intro S hc hk hp
                  refine o_faddr field35_4 type2 (by decide) rfl rfl guard_none (look_o rfl rfl) (fun _ => rfl) ?_
                  exact d_end rfl rfl rfl
                · intro S hc hk hp
                  refine o_oloadi 0 rfl type2 T_api_Expr_foc4 rfl guard_none (look_d rfl rfl (pr hp 0 rfl rfl)) (fun _ => rfl) ?_
                  exact d_end rfl rfl rfl
                · intro S hc hk hp
                  refine o_from (bind_eqO h_z9) ?_
                  refine o_call rfl rfl rfl callable6 (looks_cons (look_d rfl rfl (pr hp 0 rfl rfl)) (fun _ => rfl) (looks_nil)) (ref01_Decimal_ok _) (o_eqO ?_)
                  exact d_end rfl rfl rfl
                · intro S hc hk hp
                  refine o_from (bind_eqO h_z10) ?_
                  refine o_sadd rfl rfl (look_d rfl rfl (pr hp 0 rfl rfl)) (look_d rfl rfl (pr hp 1 rfl rfl)) rfl rfl (o_eqO ?_)
                  exact d_end rfl rfl rfl
                · intro S hc hk hp
                  refine o_from (bind_eqO h_z11) ?_
                  refine o_sadd rfl rfl (look_d rfl rfl (pr hp 0 rfl rfl)) (look_str (l := [41]) rfl (by decide)) rfl rfl (o_eqO ?_)
                  exact d_end rfl rfl rfl
                · intro S hc hk hp
                  refine o_assign rfl rfl guard_none (look_d rfl rfl (pr hp 0 rfl rfl)) (fun _ => rfl) ?_
                  exact d_end rfl rfl rfl
                refine den_code_ret ?_
                refine dene_ret ?_
                exact dene_res (res1 rfl (rv_tmp rfl))
              · refine den_skip ?_
                refine den_seq ?_
                refine den_seq ?_
                refine den_region rfl ?_
                refine o_faddr field35_0 type3 (by decide) rfl rfl guard_none (look_tmp rfl) (fun _ => rfl) ?_
                refine o_oloadi 0 rfl type3 T_api_Expr_foc0 rfl guard_none (look_tmp rfl) (fun _ => rfl) ?_
                refine o_eql rfl rfl guard_none (look_tmp rfl) (look_int rfl) (fun _ => rfl) (fun _ => rfl) ?_
                refine o_end ?_
                refine den_cond (look_tmp rfl) ?_ ?_
                · refine den_seq ?_
                  refine den_region rfl ?_
                  refine o_faddr field35_1 type9 (by decide) rfl rfl guard_none (look_tmp rfl) (fun _ => rfl) ?_
                  refine o_oloadi 0 rfl type9 T_api_Expr_foc1 rfl guard_none (look_tmp rfl) (fun _ => rfl) ?_
                  refine o_sadd rfl rfl (look_str (l := [97, 99, 116, 40]) rfl (by decide)) (look_tmp rfl) rfl rfl (fun z12 => ?_)
                  refine o_sadd rfl rfl (look_tmp rfl) (look_str (l := [41]) rfl (by decide)) rfl rfl (fun z13 => ?_)
                  refine o_assign rfl rfl guard_none (look_tmp rfl) (fun _ => rfl) ?_
                  refine o_end ?_
                  refine den_code_ret ?_
                  refine dene_ret ?_
                  exact dene_res (res1 rfl (rv_tmp rfl))
                · refine den_skip ?_
                  refine den_seq ?_
                  refine den_region rfl ?_
                  refine o_assign rfl rfl guard_none (look_str (l := [110, 111, 119]) rfl (by decide)) (fun _ => rfl) ?_
                  refine o_end ?_
                  refine den_code_ret ?_
                  exact dene_res (res1 rfl (rv_tmp rfl))

theorem ref09_Span_ok  (lo_0 : Int) (hi_1 : Int) : FunOk Tryd.prog 39 [⟨Rep.int .i64, lo_0, true⟩, ⟨Rep.int .i64, hi_1, true⟩] (ref09_Span lo_0 hi_1) (Rep.str) := by
  refine fun_ok Tryd.func39 rfl Tryd.ntmps39 rfl (all_cons rfl (all_cons rfl all_nil)) (fun w0 ok0 => ?_)
  refine den_seq ?_
  refine den_region rfl ?_
  refine o_assign rfl rfl guard_none (look_str (l := []) rfl (by decide)) (fun _ => rfl) ?_
  refine o_end ?_
  refine den_seq ?_
  refine den_seq ?_
  refine den_region rfl ?_
  refine o_move rfl rfl guard_none (look_tmp rfl) (fun _ => rfl) ?_
  refine o_eql rfl rfl guard_none (look_tmp rfl) (look_int rfl) (fun _ => rfl) (fun _ => rfl) ?_
  refine o_end ?_
  refine den_cond (look_tmp rfl) ?_ ?_
  · refine den_seq ?_
    refine den_region rfl ?_
    refine o_move rfl rfl guard_none (look_tmp rfl) (fun _ => rfl) ?_
    refine o_call rfl rfl rfl callable6 (looks_cons (look_tmp rfl) (fun _ => rfl) (looks_nil)) (ref01_Decimal_ok _) (fun z1 => ?_)
    refine o_sadd rfl rfl (look_str (l := [91]) rfl (by decide)) (look_tmp rfl) rfl rfl (fun z2 => ?_)
    refine o_sadd rfl rfl (look_tmp rfl) (look_str (l := [44, 42, 93]) rfl (by decide)) rfl rfl (fun z3 => ?_)
    refine o_assign rfl rfl guard_none (look_tmp rfl) (fun _ => rfl) ?_
    refine o_end ?_
    refine den_code_ret ?_
    refine dene_ret ?_
    exact dene_res (res1 rfl (rv_tmp rfl))
  · refine den_skip ?_
    refine den_seq ?_
    refine den_region rfl ?_
    refine o_move rfl rfl guard_none (look_tmp rfl) (fun _ => rfl) ?_
    refine o_call rfl rfl rfl callable6 (looks_cons (look_tmp rfl) (fun _ => rfl) (looks_nil)) (ref01_Decimal_ok _) (fun z4 => ?_)
    refine o_sadd rfl rfl (look_str (l := [91]) rfl (by decide)) (look_tmp rfl) rfl rfl (fun z5 => ?_)
    refine o_sadd rfl rfl (look_tmp rfl) (look_str (l := [44]) rfl (by decide)) rfl rfl (fun z6 => ?_)
    refine o_move rfl rfl guard_none (look_tmp rfl) (fun _ => rfl) ?_
    refine o_call rfl rfl rfl callable6 (looks_cons (look_tmp rfl) (fun _ => rfl) (looks_nil)) (ref01_Decimal_ok _) (fun z7 => ?_)
    refine o_sadd rfl rfl (look_tmp rfl) (look_tmp rfl) rfl rfl (fun z8 => ?_)
    refine o_sadd rfl rfl (look_tmp rfl) (look_str (l := [93]) rfl (by decide)) rfl rfl (fun z9 => ?_)
    refine o_assign rfl rfl guard_none (look_tmp rfl) (fun _ => rfl) ?_
    refine o_end ?_
    refine den_code_ret ?_
    exact dene_res (res1 rfl (rv_tmp rfl))

theorem ref09_front_ok  (e_0 : T_api_Expr) : FunOk Tryd.prog 28 [⟨T_api_Expr_rep, e_0, true⟩] (ref09_front e_0) (Rep.str) := by
  refine fun_ok Tryd.func28 rfl Tryd.ntmps28 rfl (all_cons rfl all_nil) (fun w0 ok0 => ?_)
  refine den_seq ?_
  refine den_region rfl ?_
  refine o_box rfl rfl (look_tmp rfl) rfl (fun z1 => ?_)
  refine o_assign rfl rfl guard_none (look_str (l := []) rfl (by decide)) (fun _ => rfl) ?_
  refine o_end ?_
  refine den_seq ?_
  refine den_seq ?_
  refine den_region rfl ?_
  refine o_faddr field35_0 type3 (by decide) rfl rfl guard_none (look_tmp rfl) (fun _ => rfl) ?_
  refine o_oloadi 0 rfl type3 T_api_Expr_foc0 rfl guard_none (look_tmp rfl) (fun _ => rfl) ?_
  refine o_eql rfl rfl guard_none (look_tmp rfl) (look_int rfl) (fun _ => rfl) (fun _ => rfl) ?_
  refine o_end ?_
  refine den_cond (look_tmp rfl) ?_ ?_
  · refine den_seq ?_
    refine den_region rfl ?_
    refine o_assign rfl rfl guard_none (look_str (l := [108, 101, 110]) rfl (by decide)) (fun _ => rfl) ?_
    refine o_end ?_
    refine den_code_ret ?_
    refine dene_ret ?_
    exact dene_res (res1 rfl (rv_tmp rfl))
  · refine den_skip ?_
    refine den_seq ?_
    refine den_seq ?_
    refine den_region rfl ?_
    refine o_faddr field35_0 type3 (by decide) rfl rfl guard_none (look_tmp rfl) (fun _ => rfl) ?_
    refine o_oloadi 0 rfl type3 T_api_Expr_foc0 rfl guard_none (look_tmp rfl) (fun _ => rfl) ?_
    refine o_eql rfl rfl guard_none (look_tmp rfl) (look_int rfl) (fun _ => rfl) (fun _ => rfl) ?_
    refine o_end ?_
    refine den_cond (look_tmp rfl) ?_ ?_
    · refine den_seq ?_
      refine den_region rfl ?_
      refine o_assign rfl rfl guard_none (look_str (l := [112, 114, 101, 118]) rfl (by decide)) (fun _ => rfl) ?_
      refine o_end ?_
      refine den_code_ret ?_
      refine dene_ret ?_
      exact dene_res (res1 rfl (rv_tmp rfl))
    · refine den_skip ?_
      refine den_seq ?_
      refine den_seq ?_
      refine den_region rfl ?_
      refine o_faddr field35_0 type3 (by decide) rfl rfl guard_none (look_tmp rfl) (fun _ => rfl) ?_
      refine o_oloadi 0 rfl type3 T_api_Expr_foc0 rfl guard_none (look_tmp rfl) (fun _ => rfl) ?_
      refine o_eql rfl rfl guard_none (look_tmp rfl) (look_int rfl) (fun _ => rfl) (fun _ => rfl) ?_
      refine o_end ?_
      refine den_cond (look_tmp rfl) ?_ ?_
      · refine den_seq ?_
        refine den_region rfl ?_
        refine o_faddr field35_3 type2 (by decide) rfl rfl guard_none (look_tmp rfl) (fun _ => rfl) ?_
        refine o_oloadi 0 rfl type2 T_api_Expr_foc3 rfl guard_none (look_tmp rfl) (fun _ => rfl) ?_
        refine o_faddr field35_4 type2 (by decide) rfl rfl guard_none (look_tmp rfl) (fun _ => rfl) ?_
        refine o_oloadi 0 rfl type2 T_api_Expr_foc4 rfl guard_none (look_tmp rfl) (fun _ => rfl) ?_
        refine o_call rfl rfl rfl callable39 (looks_cons (look_tmp rfl) (fun _ => rfl) (looks_cons (look_tmp rfl) (fun _ => rfl) (looks_nil))) (ref09_Span_ok _ _) (fun z2 => ?_)
        refine o_sadd rfl rfl (look_str (l := [111, 110, 99, 101]) rfl (by decide)) (look_tmp rfl) rfl rfl (fun z3 => ?_)
        refine o_assign rfl rfl guard_none (look_tmp rfl) (fun _ => rfl) ?_
        refine o_end ?_
        refine den_code_ret ?_
        refine dene_ret ?_
        exact dene_res (res1 rfl (rv_tmp rfl))
      · refine den_skip ?_
        refine den_seq ?_
        refine den_seq ?_
        refine den_region rfl ?_
        refine o_faddr field35_0 type3 (by decide) rfl rfl guard_none (look_tmp rfl) (fun _ => rfl) ?_
        refine o_oloadi 0 rfl type3 T_api_Expr_foc0 rfl guard_none (look_tmp rfl) (fun _ => rfl) ?_
        refine o_eql rfl rfl guard_none (look_tmp rfl) (look_int rfl) (fun _ => rfl) (fun _ => rfl) ?_
        refine o_end ?_
        refine den_cond (look_tmp rfl) ?_ ?_
        · refine den_seq ?_
          refine den_region rfl ?_
          refine o_faddr field35_3 type2 (by decide) rfl rfl guard_none (look_tmp rfl) (fun _ => rfl) ?_
          refine o_oloadi 0 rfl type2 T_api_Expr_foc3 rfl guard_none (look_tmp rfl) (fun _ => rfl) ?_
          refine o_faddr field35_4 type2 (by decide) rfl rfl guard_none (look_tmp rfl) (fun _ => rfl) ?_
          refine o_oloadi 0 rfl type2 T_api_Expr_foc4 rfl guard_none (look_tmp rfl) (fun _ => rfl) ?_
          refine o_call rfl rfl rfl callable39 (looks_cons (look_tmp rfl) (fun _ => rfl) (looks_cons (look_tmp rfl) (fun _ => rfl) (looks_nil))) (ref09_Span_ok _ _) (fun z4 => ?_)
          refine o_sadd rfl rfl (look_str (l := [104, 105, 115, 116]) rfl (by decide)) (look_tmp rfl) rfl rfl (fun z5 => ?_)
          refine o_assign rfl rfl guard_none (look_tmp rfl) (fun _ => rfl) ?_
          refine o_end ?_
          refine den_code_ret ?_
          refine dene_ret ?_
          exact dene_res (res1 rfl (rv_tmp rfl))
        · refine den_skip ?_
          refine den_seq ?_
          refine den_region rfl ?_
          refine o_faddr field35_3 type2 (by decide) rfl rfl guard_none (look_tmp rfl) (fun _ => rfl) ?_
          refine o_oloadi 0 rfl type2 T_api_Expr_foc3 rfl guard_none (look_tmp rfl) (fun _ => rfl) ?_
          refine o_faddr field35_4 type2 (by decide) rfl rfl guard_none (look_tmp rfl) (fun _ => rfl) ?_
          refine o_oloadi 0 rfl type2 T_api_Expr_foc4 rfl guard_none (look_tmp rfl) (fun _ => rfl) ?_
          refine o_call rfl rfl rfl callable39 (looks_cons (look_tmp rfl) (fun _ => rfl) (looks_cons (look_tmp rfl) (fun _ => rfl) (looks_nil))) (ref09_Span_ok _ _) (fun z6 => ?_)
          refine o_sadd rfl rfl (look_str (l := [115, 105, 110, 99, 101]) rfl (by decide)) (look_tmp rfl) rfl rfl (fun z7 => ?_)
          refine o_assign rfl rfl guard_none (look_tmp rfl) (fun _ => rfl) ?_
          refine o_end ?_
          refine den_code_ret ?_
          exact dene_res (res1 rfl (rv_tmp rfl))

theorem ref09_between_ok  (kind_0 : Int) : FunOk Tryd.prog 29 [⟨Rep.int .i64, kind_0, true⟩] (ref09_between kind_0) (Rep.str) := by
  refine fun_ok Tryd.func29 rfl Tryd.ntmps29 rfl (all_cons rfl all_nil) (fun w0 ok0 => ?_)
  refine den_seq ?_
  refine den_region rfl ?_
  refine o_assign rfl rfl guard_none (look_str (l := []) rfl (by decide)) (fun _ => rfl) ?_
  refine o_end ?_
  refine den_seq ?_
  refine den_region rfl ?_
  refine o_buildarr Tryd.underlying73 (info_i info73) (info_z info73) rfl (info_i info9) (info_all info9).2.1 rfl rfl rfl rfl rfl guard_none (.cons (look_str (l := [43]) rfl (by decide)) (fun _ => rfl) (.cons (look_str (l := [45]) rfl (by decide)) (fun _ => rfl) (.cons (look_str (l := [42]) rfl (by decide)) (fun _ => rfl) (.cons (look_str (l := []) rfl (by decide)) (fun _ => rfl) (.cons (look_str (l := []) rfl (by decide)) (fun _ => rfl) (.cons (look_str (l := []) rfl (by decide)) (fun _ => rfl) (.cons (look_str (l := [61]) rfl (by decide)) (fun _ => rfl) .nil))))))) ?_
  refine o_alloc zero73 rfl rfl (fun z1 => ?_)
  refine o_ostore type73 foc_self guard_none (look_tmp rfl) (fun _ => rfl) (look_tmp rfl) (fun _ => rfl) ?_
  refine o_end ?_
  refine den_seq ?_
  refine den_seq ?_
  refine den_region rfl ?_
  refine o_move rfl rfl guard_none (look_tmp rfl) (fun _ => rfl) ?_
  refine o_geq rfl rfl guard_none (look_tmp rfl) (look_int rfl) (fun _ => rfl) (fun _ => rfl) ?_
  refine o_move rfl rfl guard_none (look_tmp rfl) (fun _ => rfl) ?_
  refine o_move rfl rfl (guard_some rfl rfl rfl) (look_tmp rfl) (fun _ => rfl) ?_
  refine o_leq rfl rfl (guard_some rfl rfl rfl) (look_tmp rfl) (look_int rfl) (fun h => h) (fun _ => rfl) ?_
  refine o_pick rfl rfl guard_none (look_tmp rfl) (look_tmp rfl) look_bool (fun _ => rfl) (fun h1 h2 => pick_t ((fun _ => rfl) h1) h2) (fun _ _ => rfl) ?_
  refine o_move rfl rfl guard_none (look_tmp rfl) (fun _ => rfl) ?_
  refine o_move rfl rfl (guard_some rfl rfl rfl) (look_tmp rfl) (fun _ => rfl) ?_
  refine o_eql rfl rfl (guard_some rfl rfl rfl) (look_tmp rfl) (look_int rfl) (fun h => h) (fun _ => rfl) ?_
  refine o_pick rfl rfl guard_none (look_tmp rfl) look_bool (look_tmp rfl) (fun _ => rfl) (fun _ _ => rfl) (fun h1 h2 => pick_f ((fun _ => rfl) h1) h2) ?_
  refine o_end ?_
  refine den_cond (look_tmp rfl) ?_ ?_
  · refine den_seq ?_
    refine den_region rfl ?_
    refine o_move rfl rfl guard_none (look_tmp rfl) (fun _ => rfl) ?_
    refine o_sub rfl rfl guard_none (look_tmp rfl) (look_int rfl) (fun _ => rfl) (fun _ => rfl) ?_
    refine o_iarr (xs := ([([43] : Bytes), ([45] : Bytes), ([42] : Bytes), ([] : Bytes), ([] : Bytes), ([] : Bytes), ([61] : Bytes)] : (List Bytes))) Tryd.underlying73 (info_i info9) (info_all info9).2.1 rfl rfl rfl (look_tmp rfl) (look_tmp rfl) rfl rfl (fun z2 h_z2 => ?_)
    refine o_oloadi 0 rfl type9 (foc_arr (n := 7) (j := z2) (z := ([] : Bytes)) rfl trivial (at_lt h_z2)) rfl guard_none (look_tmp rfl) (fun _ => rfl) ?_
    refine o_assign rfl rfl guard_none (look_tmp rfl) (fun _ => rfl) ?_
    refine o_lt (fun z3 => ?_)
    refine o_end ?_
    refine den_code_ret ?_
    refine dene_ret ?_
    exact dene_res (res1 rfl (rv_tmp rfl))
  · refine den_skip ?_
    refine den_seq ?_
    refine den_seq ?_
    refine den_region rfl ?_
    refine o_move rfl rfl guard_none (look_tmp rfl) (fun _ => rfl) ?_
    refine o_eql rfl rfl guard_none (look_tmp rfl) (look_int rfl) (fun _ => rfl) (fun _ => rfl) ?_
    refine o_end ?_
    refine den_cond (look_tmp rfl) ?_ ?_
    · refine den_seq ?_
      refine den_region rfl ?_
      refine o_assign rfl rfl guard_none (look_str (l := [60]) rfl (by decide)) (fun _ => rfl) ?_
      refine o_end ?_
      refine den_code_ret ?_
      refine dene_ret ?_
      exact dene_res (res1 rfl (rv_tmp rfl))
    · refine den_skip ?_
      refine den_seq ?_
      refine den_seq ?_
      refine den_region rfl ?_
      refine o_move rfl rfl guard_none (look_tmp rfl) (fun _ => rfl) ?_
      refine o_eql rfl rfl guard_none (look_tmp rfl) (look_int rfl) (fun _ => rfl) (fun _ => rfl) ?_
      refine o_end ?_
      refine den_cond (look_tmp rfl) ?_ ?_
      · refine den_seq ?_
        refine den_region rfl ?_
        refine o_assign rfl rfl guard_none (look_str (l := [60, 61]) rfl (by decide)) (fun _ => rfl) ?_
        refine o_end ?_
        refine den_code_ret ?_
        refine dene_ret ?_
        exact dene_res (res1 rfl (rv_tmp rfl))
      · refine den_skip ?_
        refine den_seq ?_
        refine den_seq ?_
        refine den_region rfl ?_
        refine o_move rfl rfl guard_none (look_tmp rfl) (fun _ => rfl) ?_
        refine o_eql rfl rfl guard_none (look_tmp rfl) (look_int rfl) (fun _ => rfl) (fun _ => rfl) ?_
        refine o_end ?_
        refine den_cond (look_tmp rfl) ?_ ?_
        · refine den_seq ?_
          refine den_region rfl ?_
          refine o_assign rfl rfl guard_none (look_str (l := [105, 110]) rfl (by decide)) (fun _ => rfl) ?_
          refine o_end ?_
          refine den_code_ret ?_
          refine dene_ret ?_
          exact dene_res (res1 rfl (rv_tmp rfl))
        · refine den_skip ?_
          refine den_seq ?_
          refine den_seq ?_
          refine den_region rfl ?_
          refine o_move rfl rfl guard_none (look_tmp rfl) (fun _ => rfl) ?_
          refine o_eql rfl rfl guard_none (look_tmp rfl) (look_int rfl) (fun _ => rfl) (fun _ => rfl) ?_
          refine o_end ?_
          refine den_cond (look_tmp rfl) ?_ ?_
          · refine den_seq ?_
            refine den_region rfl ?_
            refine o_assign rfl rfl guard_none (look_str (l := [97, 110, 100]) rfl (by decide)) (fun _ => rfl) ?_
            refine o_end ?_
            refine den_code_ret ?_
            refine dene_ret ?_
            exact dene_res (res1 rfl (rv_tmp rfl))
          · refine den_skip ?_
            refine den_seq ?_
            refine den_region rfl ?_
            refine o_assign rfl rfl guard_none (look_str (l := [111, 114]) rfl (by decide)) (fun _ => rfl) ?_
            refine o_end ?_
            refine den_code_ret ?_
            exact dene_res (res1 rfl (rv_tmp rfl))

end Go.Proofs.YtcmkbaoeacingaaDoor.M
