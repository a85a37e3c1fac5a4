/- That the Go functions answer as the plain ones: written by gen2.py. -/
import Derived.Test.YtcmkbaoeacingaaDoorOks1
namespace Go.Proofs.YtcmkbaoeacingaaDoor.M
open Go.Eng Go
set_option linter.unusedVariables false

set_option maxHeartbeats 1000000 in
theorem outline_Right_ok (fuel : Nat)  (r_0 : T_api_Right) : FunOkI Tryd.prog 15 [⟨T_api_Right_rep, r_0, true⟩] [] (outline_Right fuel r_0) (Rep.val1) (fun (α : Value) (y : (List Bytes)) => α) (fun α y => [.vec α (Rep.str) y]) := by
  refine fun_okI Tryd.func15 rfl Tryd.ntmps15 rfl (all_cons rfl all_nil) (fun w0 ok0 M => ?_)
  refine den_seq ?_
  refine den_region rfl ?_
  refine o_box rfl rfl (look_tmp rfl) rfl (fun z1 => ?_)
  refine o_assign rfl rfl guard_none look_nil1 (fun _ => rfl) ?_
  refine o_end ?_
  refine den_seq ?_
  refine den_region rfl ?_
  refine o_faddr field39_0 type9 (by decide) rfl rfl guard_none (look_tmp rfl) (fun _ => rfl) ?_
  refine o_oloadi 0 rfl type9 T_api_Right_foc0 rfl guard_none (look_tmp rfl) (fun _ => rfl) ?_
  refine o_bvecn Tryd.underlying41 (info_i info9) (info_z info9) type9 rfl rfl rfl rfl rfl (looksL_cons (look_tmp rfl) (fun _ => rfl) (looksL_nil)) (fun z2 => ?_)
  refine o_weak (sub_nilvec (R := Rep.str) rfl) ?_
  refine o_alloc zerooS41 rfl rfl (fun z3 => ?_)
  refine o_wstore (typeisv41 z2) foc2_isvi (look_tmp rfl) rfl (look_isvv 2 (.inl rfl) (look_tmp rfl)) rfl ?_
  refine o_end ?_
  refine den_seq ?_
  refine den_region rfl ?_
  refine o_mkfunc rfl rfl guard_none (looks_cons (look_tmp rfl) (fun _ => rfl) (looks_nil)) ?_
  refine o_assign rfl rfl guard_none (look_tmp rfl) (fun _ => rfl) ?_
  refine o_end ?_
  refine den_seq ?_
  refine den_open (fun z5 h_z5 => ?_)
  refine den_open (fun z6 h_z6 => ?_)
  refine den_open (fun z7 h_z7 => ?_)
  have hB : ∀ (z4α : Value) (S : Nat → Bool) (b7 : Bool), S 7 = b7 → (([(cond (S 7) (.obj true z3 0 (.dat (Rep.isvi (List Bytes) z4α)) z7) (.obj true z3 0 (.dat (Rep.isvi (List Bytes) z2)) ([] : (List Bytes)))), .vec (Value.slice none 0 0) (Rep.str) ([] : (List Bytes)), (cond (S 7) (.gone) (.vec z2 (Rep.str) ([r_0.Name] : List Bytes))), .obj true z1 0 (.dat T_api_Right_rep) r_0, (cond (S 7) (.vec (z4α) (Rep.str) z7) (.gone))] : List Go.Eng.Item)) = ([(cond b7 (.obj true z3 0 (.dat (Rep.isvi (List Bytes) z4α)) z7) (.obj true z3 0 (.dat (Rep.isvi (List Bytes) z2)) ([] : (List Bytes)))), .vec (Value.slice none 0 0) (Rep.str) ([] : (List Bytes)), (cond b7 (.gone) (.vec z2 (Rep.str) ([r_0.Name] : List Bytes))), .obj true z1 0 (.dat T_api_Right_rep) r_0, (cond b7 (.vec (z4α) (Rep.str) z7) (.gone))] : List Go.Eng.Item) := fun z4α S b7 h7 => by subst h7; rfl
  refine den_weak sub_gone ?_
  refine den_weak (sub_pick (H' := [.obj true z3 0 (.dat (Rep.isvi (List Bytes) z2)) ([] : (List Bytes)), .vec (Value.slice none 0 0) (Rep.str) ([] : (List Bytes)), .vec z2 (Rep.str) ([r_0.Name] : List Bytes), .obj true z1 0 (.dat T_api_Right_rep) r_0, .gone]) [1, 2, 3, 4, 0] rfl rfl) ?_
  refine den_drawA (A := Value) (H' := fun z4α => [.obj true z3 0 (.dat (Rep.isvi (List Bytes) z4α)) z7, .vec (Value.slice none 0 0) (Rep.str) ([] : (List Bytes)), .gone, .obj true z1 0 (.dat T_api_Right_rep) r_0, .vec (z4α) (Rep.str) z7]) (fun z4α => [(9, ⟨(Rep.clo 30 [⟨Rep.addr, (z3, 0), true⟩]), (), true⟩), (10, ⟨Rep.addr, (z1, 0 + 1), true⟩), (11, ⟨T_api_Expr_rep, r_0.Pre, true⟩), (12, ⟨Rep.bool, z5, true⟩), (13, ⟨Rep.addr, (z1, 0 + 1), true⟩), (14, ⟨T_api_Expr_rep, r_0.Pre, true⟩), (15, ⟨Rep.str, z6, true⟩), (16, ⟨Rep.unit, (), true⟩)]) (fun z4α S => [(cond (S 7) (.obj true z3 0 (.dat (Rep.isvi (List Bytes) z4α)) z7) (.obj true z3 0 (.dat (Rep.isvi (List Bytes) z2)) ([] : (List Bytes)))), .vec (Value.slice none 0 0) (Rep.str) ([] : (List Bytes)), (cond (S 7) (.gone) (.vec z2 (Rep.str) ([r_0.Name] : List Bytes))), .obj true z1 0 (.dat T_api_Right_rep) r_0, (cond (S 7) (.vec (z4α) (Rep.str) z7) (.gone))]) (Value.slice none 0 0) mixed (fun _ => rfl) rfl rfl (fun z4α S hS => hB z4α S true (hS 7 (by decide))) ⟨?_, ?_, ?_, ?_, ?_, ?_, ?_, ?_, trivial⟩ (fun z4α => ?_)
  · intro z4α S hc hk hp
    have e7 : S 7 = false := (not_yet (j := 7) (q := 0) hc hk rfl rfl rfl rfl)
    refine eq_H (H' := [.obj true z3 0 (.dat (Rep.isvi (List Bytes) z2)) ([] : (List Bytes)), .vec (Value.slice none 0 0) (Rep.str) ([] : (List Bytes)), .vec z2 (Rep.str) ([r_0.Name] : List Bytes), .obj true z1 0 (.dat T_api_Right_rep) r_0, .gone]) (by first | exact hB z4α S false e7 | (have q := hB z4α S false e7; simp only [cond_true, cond_false] at q; exact q)) ?_
    refine o_move rfl rfl guard_none (look_o rfl rfl) (fun _ => rfl) ?_
    apply h_endA (α := z4α) z4α
    · exact (.same (.same (.same (.same (.same (.same (.same (.same .nil))))))))
    · exact rfl
    · exact rfl
    · exact rfl
    · exact hB z4α (fun k => S k || Nat.beq k 0) false (or_f e7 rfl)
  · intro z4α S hc hk hp
    have e7 : S 7 = false := (not_yet (j := 7) (q := 1) hc (not_yet (j := 3) (q := 0) hc (not_yet (j := 2) (q := 0) hc hk rfl rfl rfl rfl) rfl rfl rfl rfl) rfl rfl rfl rfl)
    refine eq_H (H' := [.obj true z3 0 (.dat (Rep.isvi (List Bytes) z2)) ([] : (List Bytes)), .vec (Value.slice none 0 0) (Rep.str) ([] : (List Bytes)), .vec z2 (Rep.str) ([r_0.Name] : List Bytes), .obj true z1 0 (.dat T_api_Right_rep) r_0, .gone]) (by first | exact hB z4α S false e7 | (have q := hB z4α S false e7; simp only [cond_true, cond_false] at q; exact q)) ?_
    refine o_faddr field39_1 type35 (by decide) rfl rfl guard_none (look_o rfl rfl) (fun _ => rfl) ?_
    apply h_endA (α := z4α) z4α
    · exact (.same (.same (.same (.same (.same (.same (.same (.same .nil))))))))
    · exact rfl
    · exact rfl
    · exact rfl
    · exact hB z4α (fun k => S k || Nat.beq k 1) false (or_f e7 rfl)
  · intro z4α S hc hk hp
    have e7 : S 7 = false := (not_yet (j := 7) (q := 1) hc (not_yet (j := 3) (q := 0) hc hk rfl rfl rfl rfl) rfl rfl rfl rfl)
    refine eq_H (H' := [.obj true z3 0 (.dat (Rep.isvi (List Bytes) z2)) ([] : (List Bytes)), .vec (Value.slice none 0 0) (Rep.str) ([] : (List Bytes)), .vec z2 (Rep.str) ([r_0.Name] : List Bytes), .obj true z1 0 (.dat T_api_Right_rep) r_0, .gone]) (by first | exact hB z4α S false e7 | (have q := hB z4α S false e7; simp only [cond_true, cond_false] at q; exact q)) ?_
    refine o_oloadi 3 rfl type35 T_api_Right_foc1 rfl guard_none (look_d rfl rfl (pr hp 0 rfl rfl)) (fun _ => rfl) ?_
    apply h_endA (α := z4α) z4α
    · exact (.same (.same (.same (.same (.same (.same (.same (.same .nil))))))))
    · exact rfl
    · exact rfl
    · exact rfl
    · exact hB z4α (fun k => S k || Nat.beq k 2) false (or_f e7 rfl)
  · intro z4α S hc hk hp
    have e7 : S 7 = false := (not_yet (j := 7) (q := 1) hc hk rfl rfl rfl rfl)
    refine eq_H (H' := [.obj true z3 0 (.dat (Rep.isvi (List Bytes) z2)) ([] : (List Bytes)), .vec (Value.slice none 0 0) (Rep.str) ([] : (List Bytes)), .vec z2 (Rep.str) ([r_0.Name] : List Bytes), .obj true z1 0 (.dat T_api_Right_rep) r_0, .gone]) (by first | exact hB z4α S false e7 | (have q := hB z4α S false e7; simp only [cond_true, cond_false] at q; exact q)) ?_
    refine o_from (bind_eqO h_z5) ?_
    refine o_call rfl rfl rfl callable31 (looks_cons (look_d rfl rfl (pr hp 0 rfl rfl)) (fun _ => rfl) (looks_nil)) (outline_asks_ok fuel _) (o_eqO ?_)
    apply h_endA (α := z4α) z4α
    · exact (.same (.same (.same (.same (.same (.same (.same (.same .nil))))))))
    · exact rfl
    · exact rfl
    · exact rfl
    · exact hB z4α (fun k => S k || Nat.beq k 3) false (or_f e7 rfl)
  · intro z4α S hc hk hp
    have e7 : S 7 = false := (not_yet (j := 7) (q := 2) hc (not_yet (j := 6) (q := 0) hc (not_yet (j := 5) (q := 0) hc hk rfl rfl rfl rfl) rfl rfl rfl rfl) rfl rfl rfl rfl)
    refine eq_H (H' := [.obj true z3 0 (.dat (Rep.isvi (List Bytes) z2)) ([] : (List Bytes)), .vec (Value.slice none 0 0) (Rep.str) ([] : (List Bytes)), .vec z2 (Rep.str) ([r_0.Name] : List Bytes), .obj true z1 0 (.dat T_api_Right_rep) r_0, .gone]) (by first | exact hB z4α S false e7 | (have q := hB z4α S false e7; simp only [cond_true, cond_false] at q; exact q)) ?_
    refine o_faddr field39_1 type35 (by decide) rfl rfl guard_none (look_o rfl rfl) (fun _ => rfl) ?_
    apply h_endA (α := z4α) z4α
    · exact (.same (.same (.same (.same (.same (.same (.same (.same .nil))))))))
    · exact rfl
    · exact rfl
    · exact rfl
    · exact hB z4α (fun k => S k || Nat.beq k 4) false (or_f e7 rfl)
  · intro z4α S hc hk hp
    have e7 : S 7 = false := (not_yet (j := 7) (q := 2) hc (not_yet (j := 6) (q := 0) hc hk rfl rfl rfl rfl) rfl rfl rfl rfl)
    refine eq_H (H' := [.obj true z3 0 (.dat (Rep.isvi (List Bytes) z2)) ([] : (List Bytes)), .vec (Value.slice none 0 0) (Rep.str) ([] : (List Bytes)), .vec z2 (Rep.str) ([r_0.Name] : List Bytes), .obj true z1 0 (.dat T_api_Right_rep) r_0, .gone]) (by first | exact hB z4α S false e7 | (have q := hB z4α S false e7; simp only [cond_true, cond_false] at q; exact q)) ?_
    refine o_oloadi 3 rfl type35 T_api_Right_foc1 rfl guard_none (look_d rfl rfl (pr hp 0 rfl rfl)) (fun _ => rfl) ?_
    apply h_endA (α := z4α) z4α
    · exact (.same (.same (.same (.same (.same (.same (.same (.same .nil))))))))
    · exact rfl
    · exact rfl
    · exact rfl
    · exact hB z4α (fun k => S k || Nat.beq k 5) false (or_f e7 rfl)
  · intro z4α S hc hk hp
    have e7 : S 7 = false := (not_yet (j := 7) (q := 2) hc hk rfl rfl rfl rfl)
    refine eq_H (H' := [.obj true z3 0 (.dat (Rep.isvi (List Bytes) z2)) ([] : (List Bytes)), .vec (Value.slice none 0 0) (Rep.str) ([] : (List Bytes)), .vec z2 (Rep.str) ([r_0.Name] : List Bytes), .obj true z1 0 (.dat T_api_Right_rep) r_0, .gone]) (by first | exact hB z4α S false e7 | (have q := hB z4α S false e7; simp only [cond_true, cond_false] at q; exact q)) ?_
    refine o_from (bind_eqO h_z6) ?_
    refine o_call rfl rfl rfl callable32 (looks_cons (look_d rfl rfl (pr hp 0 rfl rfl)) (fun _ => rfl) (looks_nil)) (print_Expr_ok fuel _) (o_eqO ?_)
    apply h_endA (α := z4α) z4α
    · exact (.same (.same (.same (.same (.same (.same (.same (.same .nil))))))))
    · exact rfl
    · exact rfl
    · exact rfl
    · exact hB z4α (fun k => S k || Nat.beq k 6) false (or_f e7 rfl)
  · intro z4α S hc hk hp
    refine eq_H (H' := [.obj true z3 0 (.dat (Rep.isvi (List Bytes) z2)) ([] : (List Bytes)), .vec (Value.slice none 0 0) (Rep.str) ([] : (List Bytes)), .vec z2 (Rep.str) ([r_0.Name] : List Bytes), .obj true z1 0 (.dat T_api_Right_rep) r_0, .gone]) (by first | exact hB z4α S false hk | (have q := hB z4α S false hk; simp only [cond_true, cond_false] at q; exact q)) ?_
    refine o_from (bind_eqO h_z7) ?_
    refine o_weak (H' := [.obj true z3 0 (.dat (Rep.isvi (List Bytes) z2)) ([] : (List Bytes)), .vec (Value.slice none 0 0) (Rep.str) ([] : (List Bytes)), .vec z2 (Rep.str) ([r_0.Name] : List Bytes), .obj true z1 0 (.dat T_api_Right_rep) r_0, .gone]) (sub_pick [0, 1, 2, 3, 4] rfl rfl) ?_
    refine o_weak (sub_redat ([r_0.Name] : List Bytes) (fun _ _ _ h => h)) ?_
    refine o_weak (H' := [.vec z2 (Rep.str) ([r_0.Name] : List Bytes), .obj true z3 0 (.dat (Rep.isvi (List Bytes) z2)) ([r_0.Name] : List Bytes)] ++ ([] ++ [.vec (Value.slice none 0 0) (Rep.str) ([] : (List Bytes)), .obj true z1 0 (.dat T_api_Right_rep) r_0, .gone])) (sub_pick [2, 0, 1, 3, 4] rfl rfl) ?_
    refine o_callUE (enters_clo rfl (look_d rfl rfl (pr hp 0 rfl rfl)) (fun _ => rfl) rfl callable30 (looks_cons (look_str (l := [112, 114, 101]) rfl (by decide)) (fun _ => rfl) (looks_cons (look_d rfl rfl (pr hp 1 rfl rfl)) (fun _ => rfl) (looks_cons (look_d rfl rfl (pr hp 2 rfl rfl)) (fun _ => rfl) (looks_nil))))) rfl rfl rfl .nil (outline_Right_1_v0_ok _ _ _ ([112, 114, 101] : Bytes) z5 z6 ([r_0.Name] : List Bytes)) (fun _ _ => (wr_v (wr_c wr_n))) (fun z8α => o_eqOH ?_)
    refine o_weak (H' := [.vec z8α (Rep.str) z7, .obj true z3 0 (.dat (Rep.isvi (List Bytes) z8α)) z7, .vec (Value.slice none 0 0) (Rep.str) ([] : (List Bytes)), .obj true z1 0 (.dat T_api_Right_rep) r_0, .gone]) (sub_pick [0, 1, 2, 3, 4] rfl rfl) ?_
    refine o_weak sub_gone ?_
    refine o_weak (H' := [.obj true z3 0 (.dat (Rep.isvi (List Bytes) z8α)) z7, .vec (Value.slice none 0 0) (Rep.str) ([] : (List Bytes)), .gone, .obj true z1 0 (.dat T_api_Right_rep) r_0, .vec z8α (Rep.str) z7]) (sub_pick [2, 3, 0, 4, 1] rfl rfl) ?_
    apply h_endA (α := z4α) z8α
    · exact (.same (.same (.same (.same (.same (.same (.same (.same .nil))))))))
    · exact rfl
    · exact rfl
    · exact rfl
    · exact hB z8α (fun k => S k || Nat.beq k 7) true (or_i rfl)
  refine den_weak (H' := [.obj true z3 0 (.dat (Rep.isvi (List Bytes) z4α)) z7, .vec (Value.slice none 0 0) (Rep.str) ([] : (List Bytes)), .obj true z1 0 (.dat T_api_Right_rep) r_0, .vec z4α (Rep.str) z7]) (sub_pick [0, 1, 3, 4] rfl rfl) ?_
  refine den_seq ?_
  refine den_open (fun z10 h_z10 => ?_)
  refine den_open (fun z11 h_z11 => ?_)
  refine den_open (fun z12 h_z12 => ?_)
  have hB : ∀ (z9α : Value) (S : Nat → Bool) (b7 : Bool), S 7 = b7 → (([(cond (S 7) (.obj true z3 0 (.dat (Rep.isvi (List Bytes) z9α)) z12) (.obj true z3 0 (.dat (Rep.isvi (List Bytes) z4α)) z7)), .vec (Value.slice none 0 0) (Rep.str) ([] : (List Bytes)), .obj true z1 0 (.dat T_api_Right_rep) r_0, (cond (S 7) (.gone) (.vec z4α (Rep.str) z7)), (cond (S 7) (.vec (z9α) (Rep.str) z12) (.gone))] : List Go.Eng.Item)) = ([(cond b7 (.obj true z3 0 (.dat (Rep.isvi (List Bytes) z9α)) z12) (.obj true z3 0 (.dat (Rep.isvi (List Bytes) z4α)) z7)), .vec (Value.slice none 0 0) (Rep.str) ([] : (List Bytes)), .obj true z1 0 (.dat T_api_Right_rep) r_0, (cond b7 (.gone) (.vec z4α (Rep.str) z7)), (cond b7 (.vec (z9α) (Rep.str) z12) (.gone))] : List Go.Eng.Item) := fun z9α S b7 h7 => by subst h7; rfl
  refine den_weak sub_gone ?_
  refine den_weak (sub_pick (H' := [.obj true z3 0 (.dat (Rep.isvi (List Bytes) z4α)) z7, .vec (Value.slice none 0 0) (Rep.str) ([] : (List Bytes)), .obj true z1 0 (.dat T_api_Right_rep) r_0, .vec z4α (Rep.str) z7, .gone]) [1, 2, 3, 4, 0] rfl rfl) ?_
  refine den_drawA (A := Value) (H' := fun z9α => [.obj true z3 0 (.dat (Rep.isvi (List Bytes) z9α)) z12, .vec (Value.slice none 0 0) (Rep.str) ([] : (List Bytes)), .obj true z1 0 (.dat T_api_Right_rep) r_0, .gone, .vec (z9α) (Rep.str) z12]) (fun z9α => [(17, ⟨(Rep.clo 30 [⟨Rep.addr, (z3, 0), true⟩]), (), true⟩), (18, ⟨Rep.addr, (z1, 0 + 7), true⟩), (19, ⟨T_api_Expr_rep, r_0.On, true⟩), (20, ⟨Rep.bool, z10, true⟩), (21, ⟨Rep.addr, (z1, 0 + 7), true⟩), (22, ⟨T_api_Expr_rep, r_0.On, true⟩), (23, ⟨Rep.str, z11, true⟩), (24, ⟨Rep.unit, (), true⟩)]) (fun z9α S => [(cond (S 7) (.obj true z3 0 (.dat (Rep.isvi (List Bytes) z9α)) z12) (.obj true z3 0 (.dat (Rep.isvi (List Bytes) z4α)) z7)), .vec (Value.slice none 0 0) (Rep.str) ([] : (List Bytes)), .obj true z1 0 (.dat T_api_Right_rep) r_0, (cond (S 7) (.gone) (.vec z4α (Rep.str) z7)), (cond (S 7) (.vec (z9α) (Rep.str) z12) (.gone))]) (Value.slice none 0 0) mixed (fun _ => rfl) rfl rfl (fun z9α S hS => hB z9α S true (hS 7 (by decide))) ⟨?_, ?_, ?_, ?_, ?_, ?_, ?_, ?_, trivial⟩ (fun z9α => ?_)
  · intro z9α S hc hk hp
    have e7 : S 7 = false := (not_yet (j := 7) (q := 0) hc hk rfl rfl rfl rfl)
    refine eq_H (H' := [.obj true z3 0 (.dat (Rep.isvi (List Bytes) z4α)) z7, .vec (Value.slice none 0 0) (Rep.str) ([] : (List Bytes)), .obj true z1 0 (.dat T_api_Right_rep) r_0, .vec z4α (Rep.str) z7, .gone]) (by first | exact hB z9α S false e7 | (have q := hB z9α S false e7; simp only [cond_true, cond_false] at q; exact q)) ?_
    refine o_move rfl rfl guard_none (look_o rfl rfl) (fun _ => rfl) ?_
    apply h_endA (α := z9α) z9α
    · exact (.same (.same (.same (.same (.same (.same (.same (.same .nil))))))))
    · exact rfl
    · exact rfl
    · exact rfl
    · exact hB z9α (fun k => S k || Nat.beq k 0) false (or_f e7 rfl)
  · intro z9α S hc hk hp
    have e7 : S 7 = false := (not_yet (j := 7) (q := 1) hc (not_yet (j := 3) (q := 0) hc (not_yet (j := 2) (q := 0) hc hk rfl rfl rfl rfl) rfl rfl rfl rfl) rfl rfl rfl rfl)
    refine eq_H (H' := [.obj true z3 0 (.dat (Rep.isvi (List Bytes) z4α)) z7, .vec (Value.slice none 0 0) (Rep.str) ([] : (List Bytes)), .obj true z1 0 (.dat T_api_Right_rep) r_0, .vec z4α (Rep.str) z7, .gone]) (by first | exact hB z9α S false e7 | (have q := hB z9α S false e7; simp only [cond_true, cond_false] at q; exact q)) ?_
    refine o_faddr field39_2 type35 (by decide) rfl rfl guard_none (look_o rfl rfl) (fun _ => rfl) ?_
    apply h_endA (α := z9α) z9α
    · exact (.same (.same (.same (.same (.same (.same (.same (.same .nil))))))))
    · exact rfl
    · exact rfl
    · exact rfl
    · exact hB z9α (fun k => S k || Nat.beq k 1) false (or_f e7 rfl)
  · intro z9α S hc hk hp
    have e7 : S 7 = false := (not_yet (j := 7) (q := 1) hc (not_yet (j := 3) (q := 0) hc hk rfl rfl rfl rfl) rfl rfl rfl rfl)
    refine eq_H (H' := [.obj true z3 0 (.dat (Rep.isvi (List Bytes) z4α)) z7, .vec (Value.slice none 0 0) (Rep.str) ([] : (List Bytes)), .obj true z1 0 (.dat T_api_Right_rep) r_0, .vec z4α (Rep.str) z7, .gone]) (by first | exact hB z9α S false e7 | (have q := hB z9α S false e7; simp only [cond_true, cond_false] at q; exact q)) ?_
    refine o_oloadi 2 rfl type35 T_api_Right_foc2 rfl guard_none (look_d rfl rfl (pr hp 0 rfl rfl)) (fun _ => rfl) ?_
    apply h_endA (α := z9α) z9α
    · exact (.same (.same (.same (.same (.same (.same (.same (.same .nil))))))))
    · exact rfl
    · exact rfl
    · exact rfl
    · exact hB z9α (fun k => S k || Nat.beq k 2) false (or_f e7 rfl)
  · intro z9α S hc hk hp
    have e7 : S 7 = false := (not_yet (j := 7) (q := 1) hc hk rfl rfl rfl rfl)
    refine eq_H (H' := [.obj true z3 0 (.dat (Rep.isvi (List Bytes) z4α)) z7, .vec (Value.slice none 0 0) (Rep.str) ([] : (List Bytes)), .obj true z1 0 (.dat T_api_Right_rep) r_0, .vec z4α (Rep.str) z7, .gone]) (by first | exact hB z9α S false e7 | (have q := hB z9α S false e7; simp only [cond_true, cond_false] at q; exact q)) ?_
    refine o_from (bind_eqO h_z10) ?_
    refine o_call rfl rfl rfl callable31 (looks_cons (look_d rfl rfl (pr hp 0 rfl rfl)) (fun _ => rfl) (looks_nil)) (outline_asks_ok fuel _) (o_eqO ?_)
    apply h_endA (α := z9α) z9α
    · exact (.same (.same (.same (.same (.same (.same (.same (.same .nil))))))))
    · exact rfl
    · exact rfl
    · exact rfl
    · exact hB z9α (fun k => S k || Nat.beq k 3) false (or_f e7 rfl)
  · intro z9α S hc hk hp
    have e7 : S 7 = false := (not_yet (j := 7) (q := 2) hc (not_yet (j := 6) (q := 0) hc (not_yet (j := 5) (q := 0) hc hk rfl rfl rfl rfl) rfl rfl rfl rfl) rfl rfl rfl rfl)
    refine eq_H (H' := [.obj true z3 0 (.dat (Rep.isvi (List Bytes) z4α)) z7, .vec (Value.slice none 0 0) (Rep.str) ([] : (List Bytes)), .obj true z1 0 (.dat T_api_Right_rep) r_0, .vec z4α (Rep.str) z7, .gone]) (by first | exact hB z9α S false e7 | (have q := hB z9α S false e7; simp only [cond_true, cond_false] at q; exact q)) ?_
    refine o_faddr field39_2 type35 (by decide) rfl rfl guard_none (look_o rfl rfl) (fun _ => rfl) ?_
    apply h_endA (α := z9α) z9α
    · exact (.same (.same (.same (.same (.same (.same (.same (.same .nil))))))))
    · exact rfl
    · exact rfl
    · exact rfl
    · exact hB z9α (fun k => S k || Nat.beq k 4) false (or_f e7 rfl)
  · intro z9α S hc hk hp
    have e7 : S 7 = false := (not_yet (j := 7) (q := 2) hc (not_yet (j := 6) (q := 0) hc hk rfl rfl rfl rfl) rfl rfl rfl rfl)
    refine eq_H (H' := [.obj true z3 0 (.dat (Rep.isvi (List Bytes) z4α)) z7, .vec (Value.slice none 0 0) (Rep.str) ([] : (List Bytes)), .obj true z1 0 (.dat T_api_Right_rep) r_0, .vec z4α (Rep.str) z7, .gone]) (by first | exact hB z9α S false e7 | (have q := hB z9α S false e7; simp only [cond_true, cond_false] at q; exact q)) ?_
    refine o_oloadi 2 rfl type35 T_api_Right_foc2 rfl guard_none (look_d rfl rfl (pr hp 0 rfl rfl)) (fun _ => rfl) ?_
    apply h_endA (α := z9α) z9α
    · exact (.same (.same (.same (.same (.same (.same (.same (.same .nil))))))))
    · exact rfl
    · exact rfl
    · exact rfl
    · exact hB z9α (fun k => S k || Nat.beq k 5) false (or_f e7 rfl)
  · intro z9α S hc hk hp
    have e7 : S 7 = false := (not_yet (j := 7) (q := 2) hc hk rfl rfl rfl rfl)
    refine eq_H (H' := [.obj true z3 0 (.dat (Rep.isvi (List Bytes) z4α)) z7, .vec (Value.slice none 0 0) (Rep.str) ([] : (List Bytes)), .obj true z1 0 (.dat T_api_Right_rep) r_0, .vec z4α (Rep.str) z7, .gone]) (by first | exact hB z9α S false e7 | (have q := hB z9α S false e7; simp only [cond_true, cond_false] at q; exact q)) ?_
    refine o_from (bind_eqO h_z11) ?_
    refine o_call rfl rfl rfl callable32 (looks_cons (look_d rfl rfl (pr hp 0 rfl rfl)) (fun _ => rfl) (looks_nil)) (print_Expr_ok fuel _) (o_eqO ?_)
    apply h_endA (α := z9α) z9α
    · exact (.same (.same (.same (.same (.same (.same (.same (.same .nil))))))))
    · exact rfl
    · exact rfl
    · exact rfl
    · exact hB z9α (fun k => S k || Nat.beq k 6) false (or_f e7 rfl)
  · intro z9α S hc hk hp
    refine eq_H (H' := [.obj true z3 0 (.dat (Rep.isvi (List Bytes) z4α)) z7, .vec (Value.slice none 0 0) (Rep.str) ([] : (List Bytes)), .obj true z1 0 (.dat T_api_Right_rep) r_0, .vec z4α (Rep.str) z7, .gone]) (by first | exact hB z9α S false hk | (have q := hB z9α S false hk; simp only [cond_true, cond_false] at q; exact q)) ?_
    refine o_from (bind_eqO h_z12) ?_
    refine o_weak (H' := [.vec z4α (Rep.str) z7, .obj true z3 0 (.dat (Rep.isvi (List Bytes) z4α)) z7] ++ ([] ++ [.vec (Value.slice none 0 0) (Rep.str) ([] : (List Bytes)), .obj true z1 0 (.dat T_api_Right_rep) r_0, .gone])) (sub_pick [3, 0, 1, 2, 4] rfl rfl) ?_
    refine o_callUE (enters_clo rfl (look_d rfl rfl (pr hp 0 rfl rfl)) (fun _ => rfl) rfl callable30 (looks_cons (look_str (l := [111, 110]) rfl (by decide)) (fun _ => rfl) (looks_cons (look_d rfl rfl (pr hp 1 rfl rfl)) (fun _ => rfl) (looks_cons (look_d rfl rfl (pr hp 2 rfl rfl)) (fun _ => rfl) (looks_nil))))) rfl rfl rfl .nil (outline_Right_1_v0_ok _ _ _ ([111, 110] : Bytes) z10 z11 z7) (fun _ _ => (wr_v (wr_c wr_n))) (fun z13α => o_eqOH ?_)
    refine o_weak (H' := [.vec z13α (Rep.str) z12, .obj true z3 0 (.dat (Rep.isvi (List Bytes) z13α)) z12, .vec (Value.slice none 0 0) (Rep.str) ([] : (List Bytes)), .obj true z1 0 (.dat T_api_Right_rep) r_0, .gone]) (sub_pick [0, 1, 2, 3, 4] rfl rfl) ?_
    refine o_weak sub_gone ?_
    refine o_weak (H' := [.obj true z3 0 (.dat (Rep.isvi (List Bytes) z13α)) z12, .vec (Value.slice none 0 0) (Rep.str) ([] : (List Bytes)), .obj true z1 0 (.dat T_api_Right_rep) r_0, .gone, .vec z13α (Rep.str) z12]) (sub_pick [2, 3, 4, 0, 1] rfl rfl) ?_
    apply h_endA (α := z9α) z13α
    · exact (.same (.same (.same (.same (.same (.same (.same (.same .nil))))))))
    · exact rfl
    · exact rfl
    · exact rfl
    · exact hB z13α (fun k => S k || Nat.beq k 7) true (or_i rfl)
  refine den_weak (H' := [.obj true z3 0 (.dat (Rep.isvi (List Bytes) z9α)) z12, .vec (Value.slice none 0 0) (Rep.str) ([] : (List Bytes)), .obj true z1 0 (.dat T_api_Right_rep) r_0, .vec z9α (Rep.str) z12]) (sub_pick [0, 1, 2, 4] rfl rfl) ?_
  refine den_seq ?_
  refine den_open (fun z15 h_z15 => ?_)
  refine den_open (fun z16 h_z16 => ?_)
  have hB : ∀ (z14α : Value) (S : Nat → Bool) (b9 : Bool), S 9 = b9 → (([(cond (S 9) (.obj true z3 0 (.dat (Rep.isvi (List Bytes) z14α)) z16) (.obj true z3 0 (.dat (Rep.isvi (List Bytes) z9α)) z12)), .vec (Value.slice none 0 0) (Rep.str) ([] : (List Bytes)), .obj true z1 0 (.dat T_api_Right_rep) r_0, (cond (S 9) (.gone) (.vec z9α (Rep.str) z12)), (cond (S 9) (.vec (z14α) (Rep.str) z16) (.gone))] : List Go.Eng.Item)) = ([(cond b9 (.obj true z3 0 (.dat (Rep.isvi (List Bytes) z14α)) z16) (.obj true z3 0 (.dat (Rep.isvi (List Bytes) z9α)) z12)), .vec (Value.slice none 0 0) (Rep.str) ([] : (List Bytes)), .obj true z1 0 (.dat T_api_Right_rep) r_0, (cond b9 (.gone) (.vec z9α (Rep.str) z12)), (cond b9 (.vec (z14α) (Rep.str) z16) (.gone))] : List Go.Eng.Item) := fun z14α S b9 h9 => by subst h9; rfl
  refine den_weak sub_gone ?_
  refine den_weak (sub_pick (H' := [.obj true z3 0 (.dat (Rep.isvi (List Bytes) z9α)) z12, .vec (Value.slice none 0 0) (Rep.str) ([] : (List Bytes)), .obj true z1 0 (.dat T_api_Right_rep) r_0, .vec z9α (Rep.str) z12, .gone]) [1, 2, 3, 4, 0] rfl rfl) ?_
  refine den_drawA (A := Value) (H' := fun z14α => [.obj true z3 0 (.dat (Rep.isvi (List Bytes) z14α)) z16, .vec (Value.slice none 0 0) (Rep.str) ([] : (List Bytes)), .obj true z1 0 (.dat T_api_Right_rep) r_0, .gone, .vec (z14α) (Rep.str) z16]) (fun z14α => [(25, ⟨(Rep.clo 30 [⟨Rep.addr, (z3, 0), true⟩]), (), true⟩), (26, ⟨Rep.addr, (z1, 0 + 13), true⟩), (27, ⟨(T_api_Update_rep).slice, r_0.Before, true⟩), (28, ⟨Rep.int .i64, (r_0.Before.length : Int), true⟩), (29, ⟨Rep.bool, decide (0 < (r_0.Before.length : Int)), true⟩), (30, ⟨Rep.addr, (z1, 0 + 13), true⟩), (31, ⟨(T_api_Update_rep).slice, r_0.Before, true⟩), (32, ⟨Rep.int .i64, (r_0.Before.length : Int), true⟩), (33, ⟨Rep.str, z15, true⟩), (34, ⟨Rep.unit, (), true⟩)]) (fun z14α S => [(cond (S 9) (.obj true z3 0 (.dat (Rep.isvi (List Bytes) z14α)) z16) (.obj true z3 0 (.dat (Rep.isvi (List Bytes) z9α)) z12)), .vec (Value.slice none 0 0) (Rep.str) ([] : (List Bytes)), .obj true z1 0 (.dat T_api_Right_rep) r_0, (cond (S 9) (.gone) (.vec z9α (Rep.str) z12)), (cond (S 9) (.vec (z14α) (Rep.str) z16) (.gone))]) (Value.slice none 0 0) mixed (fun _ => rfl) rfl rfl (fun z14α S hS => hB z14α S true (hS 9 (by decide))) ⟨?_, ?_, ?_, ?_, ?_, ?_, ?_, ?_, ?_, ?_, trivial⟩ (fun z14α => ?_)
  · intro z14α S hc hk hp
    have e9 : S 9 = false := (not_yet (j := 9) (q := 0) hc hk rfl rfl rfl rfl)
    refine eq_H (H' := [.obj true z3 0 (.dat (Rep.isvi (List Bytes) z9α)) z12, .vec (Value.slice none 0 0) (Rep.str) ([] : (List Bytes)), .obj true z1 0 (.dat T_api_Right_rep) r_0, .vec z9α (Rep.str) z12, .gone]) (by first | exact hB z14α S false e9 | (have q := hB z14α S false e9; simp only [cond_true, cond_false] at q; exact q)) ?_
    refine o_move rfl rfl guard_none (look_o rfl rfl) (fun _ => rfl) ?_
    apply h_endA (α := z14α) z14α
    · exact (.same (.same (.same (.same (.same (.same (.same (.same (.same (.same .nil))))))))))
    · exact rfl
    · exact rfl
    · exact rfl
    · exact hB z14α (fun k => S k || Nat.beq k 0) false (or_f e9 rfl)
  · intro z14α S hc hk hp
    have e9 : S 9 = false := (not_yet (j := 9) (q := 1) hc (not_yet (j := 4) (q := 0) hc (not_yet (j := 3) (q := 0) hc (not_yet (j := 2) (q := 0) hc hk rfl rfl rfl rfl) rfl rfl rfl rfl) rfl rfl rfl rfl) rfl rfl rfl rfl)
    refine eq_H (H' := [.obj true z3 0 (.dat (Rep.isvi (List Bytes) z9α)) z12, .vec (Value.slice none 0 0) (Rep.str) ([] : (List Bytes)), .obj true z1 0 (.dat T_api_Right_rep) r_0, .vec z9α (Rep.str) z12, .gone]) (by first | exact hB z14α S false e9 | (have q := hB z14α S false e9; simp only [cond_true, cond_false] at q; exact q)) ?_
    refine o_faddr field39_3 type36 (by decide) rfl rfl guard_none (look_o rfl rfl) (fun _ => rfl) ?_
    apply h_endA (α := z14α) z14α
    · exact (.same (.same (.same (.same (.same (.same (.same (.same (.same (.same .nil))))))))))
    · exact rfl
    · exact rfl
    · exact rfl
    · exact hB z14α (fun k => S k || Nat.beq k 1) false (or_f e9 rfl)
  · intro z14α S hc hk hp
    have e9 : S 9 = false := (not_yet (j := 9) (q := 1) hc (not_yet (j := 4) (q := 0) hc (not_yet (j := 3) (q := 0) hc hk rfl rfl rfl rfl) rfl rfl rfl rfl) rfl rfl rfl rfl)
    refine eq_H (H' := [.obj true z3 0 (.dat (Rep.isvi (List Bytes) z9α)) z12, .vec (Value.slice none 0 0) (Rep.str) ([] : (List Bytes)), .obj true z1 0 (.dat T_api_Right_rep) r_0, .vec z9α (Rep.str) z12, .gone]) (by first | exact hB z14α S false e9 | (have q := hB z14α S false e9; simp only [cond_true, cond_false] at q; exact q)) ?_
    refine o_oloadi 2 rfl type36 T_api_Right_foc3 rfl guard_none (look_d rfl rfl (pr hp 0 rfl rfl)) (fun _ => rfl) ?_
    apply h_endA (α := z14α) z14α
    · exact (.same (.same (.same (.same (.same (.same (.same (.same (.same (.same .nil))))))))))
    · exact rfl
    · exact rfl
    · exact rfl
    · exact hB z14α (fun k => S k || Nat.beq k 2) false (or_f e9 rfl)
  · intro z14α S hc hk hp
    have e9 : S 9 = false := (not_yet (j := 9) (q := 1) hc (not_yet (j := 4) (q := 0) hc hk rfl rfl rfl rfl) rfl rfl rfl rfl)
    refine eq_H (H' := [.obj true z3 0 (.dat (Rep.isvi (List Bytes) z9α)) z12, .vec (Value.slice none 0 0) (Rep.str) ([] : (List Bytes)), .obj true z1 0 (.dat T_api_Right_rep) r_0, .vec z9α (Rep.str) z12, .gone]) (by first | exact hB z14α S false e9 | (have q := hB z14α S false e9; simp only [cond_true, cond_false] at q; exact q)) ?_
    refine o_llen Tryd.underlying36 rfl rfl guard_none (look_d rfl rfl (pr hp 0 rfl rfl)) (fun _ => rfl) ?_
    apply h_endA (α := z14α) z14α
    · exact (.same (.same (.same (.same (.same (.same (.same (.same (.same (.same .nil))))))))))
    · exact rfl
    · exact rfl
    · exact rfl
    · exact hB z14α (fun k => S k || Nat.beq k 3) false (or_f e9 rfl)
  · intro z14α S hc hk hp
    have e9 : S 9 = false := (not_yet (j := 9) (q := 1) hc hk rfl rfl rfl rfl)
    refine eq_H (H' := [.obj true z3 0 (.dat (Rep.isvi (List Bytes) z9α)) z12, .vec (Value.slice none 0 0) (Rep.str) ([] : (List Bytes)), .obj true z1 0 (.dat T_api_Right_rep) r_0, .vec z9α (Rep.str) z12, .gone]) (by first | exact hB z14α S false e9 | (have q := hB z14α S false e9; simp only [cond_true, cond_false] at q; exact q)) ?_
    refine o_gtr rfl rfl guard_none (look_d rfl rfl (pr hp 0 rfl rfl)) (look_int rfl) (fun _ => rfl) (fun _ => rfl) ?_
    apply h_endA (α := z14α) z14α
    · exact (.same (.same (.same (.same (.same (.same (.same (.same (.same (.same .nil))))))))))
    · exact rfl
    · exact rfl
    · exact rfl
    · exact hB z14α (fun k => S k || Nat.beq k 4) false (or_f e9 rfl)
  · intro z14α S hc hk hp
    have e9 : S 9 = false := (not_yet (j := 9) (q := 2) hc (not_yet (j := 8) (q := 0) hc (not_yet (j := 7) (q := 0) hc (not_yet (j := 6) (q := 0) hc hk rfl rfl rfl rfl) rfl rfl rfl rfl) rfl rfl rfl rfl) rfl rfl rfl rfl)
    refine eq_H (H' := [.obj true z3 0 (.dat (Rep.isvi (List Bytes) z9α)) z12, .vec (Value.slice none 0 0) (Rep.str) ([] : (List Bytes)), .obj true z1 0 (.dat T_api_Right_rep) r_0, .vec z9α (Rep.str) z12, .gone]) (by first | exact hB z14α S false e9 | (have q := hB z14α S false e9; simp only [cond_true, cond_false] at q; exact q)) ?_
    refine o_faddr field39_3 type36 (by decide) rfl rfl guard_none (look_o rfl rfl) (fun _ => rfl) ?_
    apply h_endA (α := z14α) z14α
    · exact (.same (.same (.same (.same (.same (.same (.same (.same (.same (.same .nil))))))))))
    · exact rfl
    · exact rfl
    · exact rfl
    · exact hB z14α (fun k => S k || Nat.beq k 5) false (or_f e9 rfl)
  · intro z14α S hc hk hp
    have e9 : S 9 = false := (not_yet (j := 9) (q := 2) hc (not_yet (j := 8) (q := 0) hc (not_yet (j := 7) (q := 0) hc hk rfl rfl rfl rfl) rfl rfl rfl rfl) rfl rfl rfl rfl)
    refine eq_H (H' := [.obj true z3 0 (.dat (Rep.isvi (List Bytes) z9α)) z12, .vec (Value.slice none 0 0) (Rep.str) ([] : (List Bytes)), .obj true z1 0 (.dat T_api_Right_rep) r_0, .vec z9α (Rep.str) z12, .gone]) (by first | exact hB z14α S false e9 | (have q := hB z14α S false e9; simp only [cond_true, cond_false] at q; exact q)) ?_
    refine o_oloadi 2 rfl type36 T_api_Right_foc3 rfl guard_none (look_d rfl rfl (pr hp 0 rfl rfl)) (fun _ => rfl) ?_
    apply h_endA (α := z14α) z14α
    · exact (.same (.same (.same (.same (.same (.same (.same (.same (.same (.same .nil))))))))))
    · exact rfl
    · exact rfl
    · exact rfl
    · exact hB z14α (fun k => S k || Nat.beq k 6) false (or_f e9 rfl)
  · intro z14α S hc hk hp
    have e9 : S 9 = false := (not_yet (j := 9) (q := 2) hc (not_yet (j := 8) (q := 0) hc hk rfl rfl rfl rfl) rfl rfl rfl rfl)
    refine eq_H (H' := [.obj true z3 0 (.dat (Rep.isvi (List Bytes) z9α)) z12, .vec (Value.slice none 0 0) (Rep.str) ([] : (List Bytes)), .obj true z1 0 (.dat T_api_Right_rep) r_0, .vec z9α (Rep.str) z12, .gone]) (by first | exact hB z14α S false e9 | (have q := hB z14α S false e9; simp only [cond_true, cond_false] at q; exact q)) ?_
    refine o_llen Tryd.underlying36 rfl rfl guard_none (look_d rfl rfl (pr hp 0 rfl rfl)) (fun _ => rfl) ?_
    apply h_endA (α := z14α) z14α
    · exact (.same (.same (.same (.same (.same (.same (.same (.same (.same (.same .nil))))))))))
    · exact rfl
    · exact rfl
    · exact rfl
    · exact hB z14α (fun k => S k || Nat.beq k 7) false (or_f e9 rfl)
  · intro z14α S hc hk hp
    have e9 : S 9 = false := (not_yet (j := 9) (q := 2) hc hk rfl rfl rfl rfl)
    refine eq_H (H' := [.obj true z3 0 (.dat (Rep.isvi (List Bytes) z9α)) z12, .vec (Value.slice none 0 0) (Rep.str) ([] : (List Bytes)), .obj true z1 0 (.dat T_api_Right_rep) r_0, .vec z9α (Rep.str) z12, .gone]) (by first | exact hB z14α S false e9 | (have q := hB z14α S false e9; simp only [cond_true, cond_false] at q; exact q)) ?_
    refine o_from (bind_eqO h_z15) ?_
    refine o_call rfl rfl rfl callable17 (looks_cons (look_d rfl rfl (pr hp 0 rfl rfl)) (fun _ => rfl) (looks_nil)) (outline_decimal_ok _) (o_eqO ?_)
    apply h_endA (α := z14α) z14α
    · exact (.same (.same (.same (.same (.same (.same (.same (.same (.same (.same .nil))))))))))
    · exact rfl
    · exact rfl
    · exact rfl
    · exact hB z14α (fun k => S k || Nat.beq k 8) false (or_f e9 rfl)
  · intro z14α S hc hk hp
    refine eq_H (H' := [.obj true z3 0 (.dat (Rep.isvi (List Bytes) z9α)) z12, .vec (Value.slice none 0 0) (Rep.str) ([] : (List Bytes)), .obj true z1 0 (.dat T_api_Right_rep) r_0, .vec z9α (Rep.str) z12, .gone]) (by first | exact hB z14α S false hk | (have q := hB z14α S false hk; simp only [cond_true, cond_false] at q; exact q)) ?_
    refine o_from (bind_eqO h_z16) ?_
    refine o_weak (H' := [.vec z9α (Rep.str) z12, .obj true z3 0 (.dat (Rep.isvi (List Bytes) z9α)) z12] ++ ([] ++ [.vec (Value.slice none 0 0) (Rep.str) ([] : (List Bytes)), .obj true z1 0 (.dat T_api_Right_rep) r_0, .gone])) (sub_pick [3, 0, 1, 2, 4] rfl rfl) ?_
    refine o_callUE (enters_clo rfl (look_d rfl rfl (pr hp 0 rfl rfl)) (fun _ => rfl) rfl callable30 (looks_cons (look_str (l := [98, 101, 102, 111, 114, 101]) rfl (by decide)) (fun _ => rfl) (looks_cons (look_d rfl rfl (pr hp 1 rfl rfl)) (fun _ => rfl) (looks_cons (look_d rfl rfl (pr hp 2 rfl rfl)) (fun _ => rfl) (looks_nil))))) rfl rfl rfl .nil (outline_Right_1_v0_ok _ _ _ ([98, 101, 102, 111, 114, 101] : Bytes) (decide (0 < (r_0.Before.length : Int))) z15 z12) (fun _ _ => (wr_v (wr_c wr_n))) (fun z17α => o_eqOH ?_)
    refine o_weak (H' := [.vec z17α (Rep.str) z16, .obj true z3 0 (.dat (Rep.isvi (List Bytes) z17α)) z16, .vec (Value.slice none 0 0) (Rep.str) ([] : (List Bytes)), .obj true z1 0 (.dat T_api_Right_rep) r_0, .gone]) (sub_pick [0, 1, 2, 3, 4] rfl rfl) ?_
    refine o_weak sub_gone ?_
    refine o_weak (H' := [.obj true z3 0 (.dat (Rep.isvi (List Bytes) z17α)) z16, .vec (Value.slice none 0 0) (Rep.str) ([] : (List Bytes)), .obj true z1 0 (.dat T_api_Right_rep) r_0, .gone, .vec z17α (Rep.str) z16]) (sub_pick [2, 3, 4, 0, 1] rfl rfl) ?_
    apply h_endA (α := z14α) z17α
    · exact (.same (.same (.same (.same (.same (.same (.same (.same (.same (.same .nil))))))))))
    · exact rfl
    · exact rfl
    · exact rfl
    · exact hB z17α (fun k => S k || Nat.beq k 9) true (or_i rfl)
  refine den_weak (H' := [.obj true z3 0 (.dat (Rep.isvi (List Bytes) z14α)) z16, .vec (Value.slice none 0 0) (Rep.str) ([] : (List Bytes)), .obj true z1 0 (.dat T_api_Right_rep) r_0, .vec z14α (Rep.str) z16]) (sub_pick [0, 1, 2, 4] rfl rfl) ?_
  refine den_seq ?_
  refine den_open (fun z19 h_z19 => ?_)
  refine den_open (fun z20 h_z20 => ?_)
  have hB : ∀ (z18α : Value) (S : Nat → Bool) (b9 : Bool), S 9 = b9 → (([(cond (S 9) (.obj true z3 0 (.dat (Rep.isvi (List Bytes) z18α)) z20) (.obj true z3 0 (.dat (Rep.isvi (List Bytes) z14α)) z16)), .vec (Value.slice none 0 0) (Rep.str) ([] : (List Bytes)), .obj true z1 0 (.dat T_api_Right_rep) r_0, (cond (S 9) (.gone) (.vec z14α (Rep.str) z16)), (cond (S 9) (.vec (z18α) (Rep.str) z20) (.gone))] : List Go.Eng.Item)) = ([(cond b9 (.obj true z3 0 (.dat (Rep.isvi (List Bytes) z18α)) z20) (.obj true z3 0 (.dat (Rep.isvi (List Bytes) z14α)) z16)), .vec (Value.slice none 0 0) (Rep.str) ([] : (List Bytes)), .obj true z1 0 (.dat T_api_Right_rep) r_0, (cond b9 (.gone) (.vec z14α (Rep.str) z16)), (cond b9 (.vec (z18α) (Rep.str) z20) (.gone))] : List Go.Eng.Item) := fun z18α S b9 h9 => by subst h9; rfl
  refine den_weak sub_gone ?_
  refine den_weak (sub_pick (H' := [.obj true z3 0 (.dat (Rep.isvi (List Bytes) z14α)) z16, .vec (Value.slice none 0 0) (Rep.str) ([] : (List Bytes)), .obj true z1 0 (.dat T_api_Right_rep) r_0, .vec z14α (Rep.str) z16, .gone]) [1, 2, 3, 4, 0] rfl rfl) ?_
  refine den_drawA (A := Value) (H' := fun z18α => [.obj true z3 0 (.dat (Rep.isvi (List Bytes) z18α)) z20, .vec (Value.slice none 0 0) (Rep.str) ([] : (List Bytes)), .obj true z1 0 (.dat T_api_Right_rep) r_0, .gone, .vec (z18α) (Rep.str) z20]) (fun z18α => [(35, ⟨(Rep.clo 30 [⟨Rep.addr, (z3, 0), true⟩]), (), true⟩), (36, ⟨Rep.addr, (z1, 0 + 14), true⟩), (37, ⟨(T_api_Update_rep).slice, r_0.During, true⟩), (38, ⟨Rep.int .i64, (r_0.During.length : Int), true⟩), (39, ⟨Rep.bool, decide (0 < (r_0.During.length : Int)), true⟩), (40, ⟨Rep.addr, (z1, 0 + 14), true⟩), (41, ⟨(T_api_Update_rep).slice, r_0.During, true⟩), (42, ⟨Rep.int .i64, (r_0.During.length : Int), true⟩), (43, ⟨Rep.str, z19, true⟩), (44, ⟨Rep.unit, (), true⟩)]) (fun z18α S => [(cond (S 9) (.obj true z3 0 (.dat (Rep.isvi (List Bytes) z18α)) z20) (.obj true z3 0 (.dat (Rep.isvi (List Bytes) z14α)) z16)), .vec (Value.slice none 0 0) (Rep.str) ([] : (List Bytes)), .obj true z1 0 (.dat T_api_Right_rep) r_0, (cond (S 9) (.gone) (.vec z14α (Rep.str) z16)), (cond (S 9) (.vec (z18α) (Rep.str) z20) (.gone))]) (Value.slice none 0 0) mixed (fun _ => rfl) rfl rfl (fun z18α S hS => hB z18α S true (hS 9 (by decide))) ⟨?_, ?_, ?_, ?_, ?_, ?_, ?_, ?_, ?_, ?_, trivial⟩ (fun z18α => ?_)
  · intro z18α S hc hk hp
    have e9 : S 9 = false := (not_yet (j := 9) (q := 0) hc hk rfl rfl rfl rfl)
    refine eq_H (H' := [.obj true z3 0 (.dat (Rep.isvi (List Bytes) z14α)) z16, .vec (Value.slice none 0 0) (Rep.str) ([] : (List Bytes)), .obj true z1 0 (.dat T_api_Right_rep) r_0, .vec z14α (Rep.str) z16, .gone]) (by first | exact hB z18α S false e9 | (have q := hB z18α S false e9; simp only [cond_true, cond_false] at q; exact q)) ?_
    refine o_move rfl rfl guard_none (look_o rfl rfl) (fun _ => rfl) ?_
    apply h_endA (α := z18α) z18α
    · exact (.same (.same (.same (.same (.same (.same (.same (.same (.same (.same .nil))))))))))
    · exact rfl
    · exact rfl
    · exact rfl
    · exact hB z18α (fun k => S k || Nat.beq k 0) false (or_f e9 rfl)
  · intro z18α S hc hk hp
    have e9 : S 9 = false := (not_yet (j := 9) (q := 1) hc (not_yet (j := 4) (q := 0) hc (not_yet (j := 3) (q := 0) hc (not_yet (j := 2) (q := 0) hc hk rfl rfl rfl rfl) rfl rfl rfl rfl) rfl rfl rfl rfl) rfl rfl rfl rfl)
    refine eq_H (H' := [.obj true z3 0 (.dat (Rep.isvi (List Bytes) z14α)) z16, .vec (Value.slice none 0 0) (Rep.str) ([] : (List Bytes)), .obj true z1 0 (.dat T_api_Right_rep) r_0, .vec z14α (Rep.str) z16, .gone]) (by first | exact hB z18α S false e9 | (have q := hB z18α S false e9; simp only [cond_true, cond_false] at q; exact q)) ?_
    refine o_faddr field39_4 type36 (by decide) rfl rfl guard_none (look_o rfl rfl) (fun _ => rfl) ?_
    apply h_endA (α := z18α) z18α
    · exact (.same (.same (.same (.same (.same (.same (.same (.same (.same (.same .nil))))))))))
    · exact rfl
    · exact rfl
    · exact rfl
    · exact hB z18α (fun k => S k || Nat.beq k 1) false (or_f e9 rfl)
  · intro z18α S hc hk hp
    have e9 : S 9 = false := (not_yet (j := 9) (q := 1) hc (not_yet (j := 4) (q := 0) hc (not_yet (j := 3) (q := 0) hc hk rfl rfl rfl rfl) rfl rfl rfl rfl) rfl rfl rfl rfl)
    refine eq_H (H' := [.obj true z3 0 (.dat (Rep.isvi (List Bytes) z14α)) z16, .vec (Value.slice none 0 0) (Rep.str) ([] : (List Bytes)), .obj true z1 0 (.dat T_api_Right_rep) r_0, .vec z14α (Rep.str) z16, .gone]) (by first | exact hB z18α S false e9 | (have q := hB z18α S false e9; simp only [cond_true, cond_false] at q; exact q)) ?_
    refine o_oloadi 2 rfl type36 T_api_Right_foc4 rfl guard_none (look_d rfl rfl (pr hp 0 rfl rfl)) (fun _ => rfl) ?_
    apply h_endA (α := z18α) z18α
    · exact (.same (.same (.same (.same (.same (.same (.same (.same (.same (.same .nil))))))))))
    · exact rfl
    · exact rfl
    · exact rfl
    · exact hB z18α (fun k => S k || Nat.beq k 2) false (or_f e9 rfl)
  · intro z18α S hc hk hp
    have e9 : S 9 = false := (not_yet (j := 9) (q := 1) hc (not_yet (j := 4) (q := 0) hc hk rfl rfl rfl rfl) rfl rfl rfl rfl)
    refine eq_H (H' := [.obj true z3 0 (.dat (Rep.isvi (List Bytes) z14α)) z16, .vec (Value.slice none 0 0) (Rep.str) ([] : (List Bytes)), .obj true z1 0 (.dat T_api_Right_rep) r_0, .vec z14α (Rep.str) z16, .gone]) (by first | exact hB z18α S false e9 | (have q := hB z18α S false e9; simp only [cond_true, cond_false] at q; exact q)) ?_
    refine o_llen Tryd.underlying36 rfl rfl guard_none (look_d rfl rfl (pr hp 0 rfl rfl)) (fun _ => rfl) ?_
    apply h_endA (α := z18α) z18α
    · exact (.same (.same (.same (.same (.same (.same (.same (.same (.same (.same .nil))))))))))
    · exact rfl
    · exact rfl
    · exact rfl
    · exact hB z18α (fun k => S k || Nat.beq k 3) false (or_f e9 rfl)
  · intro z18α S hc hk hp
    have e9 : S 9 = false := (not_yet (j := 9) (q := 1) hc hk rfl rfl rfl rfl)
    refine eq_H (H' := [.obj true z3 0 (.dat (Rep.isvi (List Bytes) z14α)) z16, .vec (Value.slice none 0 0) (Rep.str) ([] : (List Bytes)), .obj true z1 0 (.dat T_api_Right_rep) r_0, .vec z14α (Rep.str) z16, .gone]) (by first | exact hB z18α S false e9 | (have q := hB z18α S false e9; simp only [cond_true, cond_false] at q; exact q)) ?_
    refine o_gtr rfl rfl guard_none (look_d rfl rfl (pr hp 0 rfl rfl)) (look_int rfl) (fun _ => rfl) (fun _ => rfl) ?_
    apply h_endA (α := z18α) z18α
    · exact (.same (.same (.same (.same (.same (.same (.same (.same (.same (.same .nil))))))))))
    · exact rfl
    · exact rfl
    · exact rfl
    · exact hB z18α (fun k => S k || Nat.beq k 4) false (or_f e9 rfl)
  · intro z18α S hc hk hp
    have e9 : S 9 = false := (not_yet (j := 9) (q := 2) hc (not_yet (j := 8) (q := 0) hc (not_yet (j := 7) (q := 0) hc (not_yet (j := 6) (q := 0) hc hk rfl rfl rfl rfl) rfl rfl rfl rfl) rfl rfl rfl rfl) rfl rfl rfl rfl)
    refine eq_H (H' := [.obj true z3 0 (.dat (Rep.isvi (List Bytes) z14α)) z16, .vec (Value.slice none 0 0) (Rep.str) ([] : (List Bytes)), .obj true z1 0 (.dat T_api_Right_rep) r_0, .vec z14α (Rep.str) z16, .gone]) (by first | exact hB z18α S false e9 | (have q := hB z18α S false e9; simp only [cond_true, cond_false] at q; exact q)) ?_
    refine o_faddr field39_4 type36 (by decide) rfl rfl guard_none (look_o rfl rfl) (fun _ => rfl) ?_
    apply h_endA (α := z18α) z18α
    · exact (.same (.same (.same (.same (.same (.same (.same (.same (.same (.same .nil))))))))))
    · exact rfl
    · exact rfl
    · exact rfl
    · exact hB z18α (fun k => S k || Nat.beq k 5) false (or_f e9 rfl)
  · intro z18α S hc hk hp
    have e9 : S 9 = false := (not_yet (j := 9) (q := 2) hc (not_yet (j := 8) (q := 0) hc (not_yet (j := 7) (q := 0) hc hk rfl rfl rfl rfl) rfl rfl rfl rfl) rfl rfl rfl rfl)
    refine eq_H (H' := [.obj true z3 0 (.dat (Rep.isvi (List Bytes) z14α)) z16, .vec (Value.slice none 0 0) (Rep.str) ([] : (List Bytes)), .obj true z1 0 (.dat T_api_Right_rep) r_0, .vec z14α (Rep.str) z16, .gone]) (by first | exact hB z18α S false e9 | (have q := hB z18α S false e9; simp only [cond_true, cond_false] at q; exact q)) ?_
    refine o_oloadi 2 rfl type36 T_api_Right_foc4 rfl guard_none (look_d rfl rfl (pr hp 0 rfl rfl)) (fun _ => rfl) ?_
    apply h_endA (α := z18α) z18α
    · exact (.same (.same (.same (.same (.same (.same (.same (.same (.same (.same .nil))))))))))
    · exact rfl
    · exact rfl
    · exact rfl
    · exact hB z18α (fun k => S k || Nat.beq k 6) false (or_f e9 rfl)
  · intro z18α S hc hk hp
    have e9 : S 9 = false := (not_yet (j := 9) (q := 2) hc (not_yet (j := 8) (q := 0) hc hk rfl rfl rfl rfl) rfl rfl rfl rfl)
    refine eq_H (H' := [.obj true z3 0 (.dat (Rep.isvi (List Bytes) z14α)) z16, .vec (Value.slice none 0 0) (Rep.str) ([] : (List Bytes)), .obj true z1 0 (.dat T_api_Right_rep) r_0, .vec z14α (Rep.str) z16, .gone]) (by first | exact hB z18α S false e9 | (have q := hB z18α S false e9; simp only [cond_true, cond_false] at q; exact q)) ?_
    refine o_llen Tryd.underlying36 rfl rfl guard_none (look_d rfl rfl (pr hp 0 rfl rfl)) (fun _ => rfl) ?_
    apply h_endA (α := z18α) z18α
    · exact (.same (.same (.same (.same (.same (.same (.same (.same (.same (.same .nil))))))))))
    · exact rfl
    · exact rfl
    · exact rfl
    · exact hB z18α (fun k => S k || Nat.beq k 7) false (or_f e9 rfl)
  · intro z18α S hc hk hp
    have e9 : S 9 = false := (not_yet (j := 9) (q := 2) hc hk rfl rfl rfl rfl)
    refine eq_H (H' := [.obj true z3 0 (.dat (Rep.isvi (List Bytes) z14α)) z16, .vec (Value.slice none 0 0) (Rep.str) ([] : (List Bytes)), .obj true z1 0 (.dat T_api_Right_rep) r_0, .vec z14α (Rep.str) z16, .gone]) (by first | exact hB z18α S false e9 | (have q := hB z18α S false e9; simp only [cond_true, cond_false] at q; exact q)) ?_
    refine o_from (bind_eqO h_z19) ?_
    refine o_call rfl rfl rfl callable17 (looks_cons (look_d rfl rfl (pr hp 0 rfl rfl)) (fun _ => rfl) (looks_nil)) (outline_decimal_ok _) (o_eqO ?_)
    apply h_endA (α := z18α) z18α
    · exact (.same (.same (.same (.same (.same (.same (.same (.same (.same (.same .nil))))))))))
    · exact rfl
    · exact rfl
    · exact rfl
    · exact hB z18α (fun k => S k || Nat.beq k 8) false (or_f e9 rfl)
  · intro z18α S hc hk hp
    refine eq_H (H' := [.obj true z3 0 (.dat (Rep.isvi (List Bytes) z14α)) z16, .vec (Value.slice none 0 0) (Rep.str) ([] : (List Bytes)), .obj true z1 0 (.dat T_api_Right_rep) r_0, .vec z14α (Rep.str) z16, .gone]) (by first | exact hB z18α S false hk | (have q := hB z18α S false hk; simp only [cond_true, cond_false] at q; exact q)) ?_
    refine o_from (bind_eqO h_z20) ?_
    refine o_weak (H' := [.vec z14α (Rep.str) z16, .obj true z3 0 (.dat (Rep.isvi (List Bytes) z14α)) z16] ++ ([] ++ [.vec (Value.slice none 0 0) (Rep.str) ([] : (List Bytes)), .obj true z1 0 (.dat T_api_Right_rep) r_0, .gone])) (sub_pick [3, 0, 1, 2, 4] rfl rfl) ?_
    refine o_callUE (enters_clo rfl (look_d rfl rfl (pr hp 0 rfl rfl)) (fun _ => rfl) rfl callable30 (looks_cons (look_str (l := [100, 117, 114, 105, 110, 103]) rfl (by decide)) (fun _ => rfl) (looks_cons (look_d rfl rfl (pr hp 1 rfl rfl)) (fun _ => rfl) (looks_cons (look_d rfl rfl (pr hp 2 rfl rfl)) (fun _ => rfl) (looks_nil))))) rfl rfl rfl .nil (outline_Right_1_v0_ok _ _ _ ([100, 117, 114, 105, 110, 103] : Bytes) (decide (0 < (r_0.During.length : Int))) z19 z16) (fun _ _ => (wr_v (wr_c wr_n))) (fun z21α => o_eqOH ?_)
    refine o_weak (H' := [.vec z21α (Rep.str) z20, .obj true z3 0 (.dat (Rep.isvi (List Bytes) z21α)) z20, .vec (Value.slice none 0 0) (Rep.str) ([] : (List Bytes)), .obj true z1 0 (.dat T_api_Right_rep) r_0, .gone]) (sub_pick [0, 1, 2, 3, 4] rfl rfl) ?_
    refine o_weak sub_gone ?_
    refine o_weak (H' := [.obj true z3 0 (.dat (Rep.isvi (List Bytes) z21α)) z20, .vec (Value.slice none 0 0) (Rep.str) ([] : (List Bytes)), .obj true z1 0 (.dat T_api_Right_rep) r_0, .gone, .vec z21α (Rep.str) z20]) (sub_pick [2, 3, 4, 0, 1] rfl rfl) ?_
    apply h_endA (α := z18α) z21α
    · exact (.same (.same (.same (.same (.same (.same (.same (.same (.same (.same .nil))))))))))
    · exact rfl
    · exact rfl
    · exact rfl
    · exact hB z21α (fun k => S k || Nat.beq k 9) true (or_i rfl)
  refine den_weak (H' := [.obj true z3 0 (.dat (Rep.isvi (List Bytes) z18α)) z20, .vec (Value.slice none 0 0) (Rep.str) ([] : (List Bytes)), .obj true z1 0 (.dat T_api_Right_rep) r_0, .vec z18α (Rep.str) z20]) (sub_pick [0, 1, 2, 4] rfl rfl) ?_
  refine den_seq ?_
  refine den_open (fun z23 h_z23 => ?_)
  refine den_open (fun z24 h_z24 => ?_)
  have hB : ∀ (z22α : Value) (S : Nat → Bool) (b9 : Bool), S 9 = b9 → (([(cond (S 9) (.obj true z3 0 (.dat (Rep.isvi (List Bytes) z22α)) z24) (.obj true z3 0 (.dat (Rep.isvi (List Bytes) z18α)) z20)), .vec (Value.slice none 0 0) (Rep.str) ([] : (List Bytes)), .obj true z1 0 (.dat T_api_Right_rep) r_0, (cond (S 9) (.gone) (.vec z18α (Rep.str) z20)), (cond (S 9) (.vec (z22α) (Rep.str) z24) (.gone))] : List Go.Eng.Item)) = ([(cond b9 (.obj true z3 0 (.dat (Rep.isvi (List Bytes) z22α)) z24) (.obj true z3 0 (.dat (Rep.isvi (List Bytes) z18α)) z20)), .vec (Value.slice none 0 0) (Rep.str) ([] : (List Bytes)), .obj true z1 0 (.dat T_api_Right_rep) r_0, (cond b9 (.gone) (.vec z18α (Rep.str) z20)), (cond b9 (.vec (z22α) (Rep.str) z24) (.gone))] : List Go.Eng.Item) := fun z22α S b9 h9 => by subst h9; rfl
  refine den_weak sub_gone ?_
  refine den_weak (sub_pick (H' := [.obj true z3 0 (.dat (Rep.isvi (List Bytes) z18α)) z20, .vec (Value.slice none 0 0) (Rep.str) ([] : (List Bytes)), .obj true z1 0 (.dat T_api_Right_rep) r_0, .vec z18α (Rep.str) z20, .gone]) [1, 2, 3, 4, 0] rfl rfl) ?_
  refine den_drawA (A := Value) (H' := fun z22α => [.obj true z3 0 (.dat (Rep.isvi (List Bytes) z22α)) z24, .vec (Value.slice none 0 0) (Rep.str) ([] : (List Bytes)), .obj true z1 0 (.dat T_api_Right_rep) r_0, .gone, .vec (z22α) (Rep.str) z24]) (fun z22α => [(45, ⟨(Rep.clo 30 [⟨Rep.addr, (z3, 0), true⟩]), (), true⟩), (46, ⟨Rep.addr, (z1, 0 + 15), true⟩), (47, ⟨(T_api_Update_rep).slice, r_0.After, true⟩), (48, ⟨Rep.int .i64, (r_0.After.length : Int), true⟩), (49, ⟨Rep.bool, decide (0 < (r_0.After.length : Int)), true⟩), (50, ⟨Rep.addr, (z1, 0 + 15), true⟩), (51, ⟨(T_api_Update_rep).slice, r_0.After, true⟩), (52, ⟨Rep.int .i64, (r_0.After.length : Int), true⟩), (53, ⟨Rep.str, z23, true⟩), (54, ⟨Rep.unit, (), true⟩)]) (fun z22α S => [(cond (S 9) (.obj true z3 0 (.dat (Rep.isvi (List Bytes) z22α)) z24) (.obj true z3 0 (.dat (Rep.isvi (List Bytes) z18α)) z20)), .vec (Value.slice none 0 0) (Rep.str) ([] : (List Bytes)), .obj true z1 0 (.dat T_api_Right_rep) r_0, (cond (S 9) (.gone) (.vec z18α (Rep.str) z20)), (cond (S 9) (.vec (z22α) (Rep.str) z24) (.gone))]) (Value.slice none 0 0) mixed (fun _ => rfl) rfl rfl (fun z22α S hS => hB z22α S true (hS 9 (by decide))) ⟨?_, ?_, ?_, ?_, ?_, ?_, ?_, ?_, ?_, ?_, trivial⟩ (fun z22α => ?_)
  · intro z22α S hc hk hp
    have e9 : S 9 = false := (not_yet (j := 9) (q := 0) hc hk rfl rfl rfl rfl)
    refine eq_H (H' := [.obj true z3 0 (.dat (Rep.isvi (List Bytes) z18α)) z20, .vec (Value.slice none 0 0) (Rep.str) ([] : (List Bytes)), .obj true z1 0 (.dat T_api_Right_rep) r_0, .vec z18α (Rep.str) z20, .gone]) (by first | exact hB z22α S false e9 | (have q := hB z22α S false e9; simp only [cond_true, cond_false] at q; exact q)) ?_
    refine o_move rfl rfl guard_none (look_o rfl rfl) (fun _ => rfl) ?_
    apply h_endA (α := z22α) z22α
    · exact (.same (.same (.same (.same (.same (.same (.same (.same (.same (.same .nil))))))))))
    · exact rfl
    · exact rfl
    · exact rfl
    · exact hB z22α (fun k => S k || Nat.beq k 0) false (or_f e9 rfl)
  · intro z22α S hc hk hp
    have e9 : S 9 = false := (not_yet (j := 9) (q := 1) hc (not_yet (j := 4) (q := 0) hc (not_yet (j := 3) (q := 0) hc (not_yet (j := 2) (q := 0) hc hk rfl rfl rfl rfl) rfl rfl rfl rfl) rfl rfl rfl rfl) rfl rfl rfl rfl)
    refine eq_H (H' := [.obj true z3 0 (.dat (Rep.isvi (List Bytes) z18α)) z20, .vec (Value.slice none 0 0) (Rep.str) ([] : (List Bytes)), .obj true z1 0 (.dat T_api_Right_rep) r_0, .vec z18α (Rep.str) z20, .gone]) (by first | exact hB z22α S false e9 | (have q := hB z22α S false e9; simp only [cond_true, cond_false] at q; exact q)) ?_
    refine o_faddr field39_5 type36 (by decide) rfl rfl guard_none (look_o rfl rfl) (fun _ => rfl) ?_
    apply h_endA (α := z22α) z22α
    · exact (.same (.same (.same (.same (.same (.same (.same (.same (.same (.same .nil))))))))))
    · exact rfl
    · exact rfl
    · exact rfl
    · exact hB z22α (fun k => S k || Nat.beq k 1) false (or_f e9 rfl)
  · intro z22α S hc hk hp
    have e9 : S 9 = false := (not_yet (j := 9) (q := 1) hc (not_yet (j := 4) (q := 0) hc (not_yet (j := 3) (q := 0) hc hk rfl rfl rfl rfl) rfl rfl rfl rfl) rfl rfl rfl rfl)
    refine eq_H (H' := [.obj true z3 0 (.dat (Rep.isvi (List Bytes) z18α)) z20, .vec (Value.slice none 0 0) (Rep.str) ([] : (List Bytes)), .obj true z1 0 (.dat T_api_Right_rep) r_0, .vec z18α (Rep.str) z20, .gone]) (by first | exact hB z22α S false e9 | (have q := hB z22α S false e9; simp only [cond_true, cond_false] at q; exact q)) ?_
    refine o_oloadi 2 rfl type36 T_api_Right_foc5 rfl guard_none (look_d rfl rfl (pr hp 0 rfl rfl)) (fun _ => rfl) ?_
    apply h_endA (α := z22α) z22α
    · exact (.same (.same (.same (.same (.same (.same (.same (.same (.same (.same .nil))))))))))
    · exact rfl
    · exact rfl
    · exact rfl
    · exact hB z22α (fun k => S k || Nat.beq k 2) false (or_f e9 rfl)
  · intro z22α S hc hk hp
    have e9 : S 9 = false := (not_yet (j := 9) (q := 1) hc (not_yet (j := 4) (q := 0) hc hk rfl rfl rfl rfl) rfl rfl rfl rfl)
    refine eq_H (H' := [.obj true z3 0 (.dat (Rep.isvi (List Bytes) z18α)) z20, .vec (Value.slice none 0 0) (Rep.str) ([] : (List Bytes)), .obj true z1 0 (.dat T_api_Right_rep) r_0, .vec z18α (Rep.str) z20, .gone]) (by first | exact hB z22α S false e9 | (have q := hB z22α S false e9; simp only [cond_true, cond_false] at q; exact q)) ?_
    refine o_llen Tryd.underlying36 rfl rfl guard_none (look_d rfl rfl (pr hp 0 rfl rfl)) (fun _ => rfl) ?_
    apply h_endA (α := z22α) z22α
    · exact (.same (.same (.same (.same (.same (.same (.same (.same (.same (.same .nil))))))))))
    · exact rfl
    · exact rfl
    · exact rfl
    · exact hB z22α (fun k => S k || Nat.beq k 3) false (or_f e9 rfl)
  · intro z22α S hc hk hp
    have e9 : S 9 = false := (not_yet (j := 9) (q := 1) hc hk rfl rfl rfl rfl)
    refine eq_H (H' := [.obj true z3 0 (.dat (Rep.isvi (List Bytes) z18α)) z20, .vec (Value.slice none 0 0) (Rep.str) ([] : (List Bytes)), .obj true z1 0 (.dat T_api_Right_rep) r_0, .vec z18α (Rep.str) z20, .gone]) (by first | exact hB z22α S false e9 | (have q := hB z22α S false e9; simp only [cond_true, cond_false] at q; exact q)) ?_
    refine o_gtr rfl rfl guard_none (look_d rfl rfl (pr hp 0 rfl rfl)) (look_int rfl) (fun _ => rfl) (fun _ => rfl) ?_
    apply h_endA (α := z22α) z22α
    · exact (.same (.same (.same (.same (.same (.same (.same (.same (.same (.same .nil))))))))))
    · exact rfl
    · exact rfl
    · exact rfl
    · exact hB z22α (fun k => S k || Nat.beq k 4) false (or_f e9 rfl)
  · intro z22α S hc hk hp
    have e9 : S 9 = false := (not_yet (j := 9) (q := 2) hc (not_yet (j := 8) (q := 0) hc (not_yet (j := 7) (q := 0) hc (not_yet (j := 6) (q := 0) hc hk rfl rfl rfl rfl) rfl rfl rfl rfl) rfl rfl rfl rfl) rfl rfl rfl rfl)
    refine eq_H (H' := [.obj true z3 0 (.dat (Rep.isvi (List Bytes) z18α)) z20, .vec (Value.slice none 0 0) (Rep.str) ([] : (List Bytes)), .obj true z1 0 (.dat T_api_Right_rep) r_0, .vec z18α (Rep.str) z20, .gone]) (by first | exact hB z22α S false e9 | (have q := hB z22α S false e9; simp only [cond_true, cond_false] at q; exact q)) ?_
    refine o_faddr field39_5 type36 (by decide) rfl rfl guard_none (look_o rfl rfl) (fun _ => rfl) ?_
    apply h_endA (α := z22α) z22α
    · exact (.same (.same (.same (.same (.same (.same (.same (.same (.same (.same .nil))))))))))
    · exact rfl
    · exact rfl
    · exact rfl
    · exact hB z22α (fun k => S k || Nat.beq k 5) false (or_f e9 rfl)
  · intro z22α S hc hk hp
    have e9 : S 9 = false := (not_yet (j := 9) (q := 2) hc (not_yet (j := 8) (q := 0) hc (not_yet (j := 7) (q := 0) hc hk rfl rfl rfl rfl) rfl rfl rfl rfl) rfl rfl rfl rfl)
    refine eq_H (H' := [.obj true z3 0 (.dat (Rep.isvi (List Bytes) z18α)) z20, .vec (Value.slice none 0 0) (Rep.str) ([] : (List Bytes)), .obj true z1 0 (.dat T_api_Right_rep) r_0, .vec z18α (Rep.str) z20, .gone]) (by first | exact hB z22α S false e9 | (have q := hB z22α S false e9; simp only [cond_true, cond_false] at q; exact q)) ?_
    refine o_oloadi 2 rfl type36 T_api_Right_foc5 rfl guard_none (look_d rfl rfl (pr hp 0 rfl rfl)) (fun _ => rfl) ?_
    apply h_endA (α := z22α) z22α
    · exact (.same (.same (.same (.same (.same (.same (.same (.same (.same (.same .nil))))))))))
    · exact rfl
    · exact rfl
    · exact rfl
    · exact hB z22α (fun k => S k || Nat.beq k 6) false (or_f e9 rfl)
  · intro z22α S hc hk hp
    have e9 : S 9 = false := (not_yet (j := 9) (q := 2) hc (not_yet (j := 8) (q := 0) hc hk rfl rfl rfl rfl) rfl rfl rfl rfl)
    refine eq_H (H' := [.obj true z3 0 (.dat (Rep.isvi (List Bytes) z18α)) z20, .vec (Value.slice none 0 0) (Rep.str) ([] : (List Bytes)), .obj true z1 0 (.dat T_api_Right_rep) r_0, .vec z18α (Rep.str) z20, .gone]) (by first | exact hB z22α S false e9 | (have q := hB z22α S false e9; simp only [cond_true, cond_false] at q; exact q)) ?_
    refine o_llen Tryd.underlying36 rfl rfl guard_none (look_d rfl rfl (pr hp 0 rfl rfl)) (fun _ => rfl) ?_
    apply h_endA (α := z22α) z22α
    · exact (.same (.same (.same (.same (.same (.same (.same (.same (.same (.same .nil))))))))))
    · exact rfl
    · exact rfl
    · exact rfl
    · exact hB z22α (fun k => S k || Nat.beq k 7) false (or_f e9 rfl)
  · intro z22α S hc hk hp
    have e9 : S 9 = false := (not_yet (j := 9) (q := 2) hc hk rfl rfl rfl rfl)
    refine eq_H (H' := [.obj true z3 0 (.dat (Rep.isvi (List Bytes) z18α)) z20, .vec (Value.slice none 0 0) (Rep.str) ([] : (List Bytes)), .obj true z1 0 (.dat T_api_Right_rep) r_0, .vec z18α (Rep.str) z20, .gone]) (by first | exact hB z22α S false e9 | (have q := hB z22α S false e9; simp only [cond_true, cond_false] at q; exact q)) ?_
    refine o_from (bind_eqO h_z23) ?_
    refine o_call rfl rfl rfl callable17 (looks_cons (look_d rfl rfl (pr hp 0 rfl rfl)) (fun _ => rfl) (looks_nil)) (outline_decimal_ok _) (o_eqO ?_)
    apply h_endA (α := z22α) z22α
    · exact (.same (.same (.same (.same (.same (.same (.same (.same (.same (.same .nil))))))))))
    · exact rfl
    · exact rfl
    · exact rfl
    · exact hB z22α (fun k => S k || Nat.beq k 8) false (or_f e9 rfl)
  · intro z22α S hc hk hp
    refine eq_H (H' := [.obj true z3 0 (.dat (Rep.isvi (List Bytes) z18α)) z20, .vec (Value.slice none 0 0) (Rep.str) ([] : (List Bytes)), .obj true z1 0 (.dat T_api_Right_rep) r_0, .vec z18α (Rep.str) z20, .gone]) (by first | exact hB z22α S false hk | (have q := hB z22α S false hk; simp only [cond_true, cond_false] at q; exact q)) ?_
    refine o_from (bind_eqO h_z24) ?_
    refine o_weak (H' := [.vec z18α (Rep.str) z20, .obj true z3 0 (.dat (Rep.isvi (List Bytes) z18α)) z20] ++ ([] ++ [.vec (Value.slice none 0 0) (Rep.str) ([] : (List Bytes)), .obj true z1 0 (.dat T_api_Right_rep) r_0, .gone])) (sub_pick [3, 0, 1, 2, 4] rfl rfl) ?_
    refine o_callUE (enters_clo rfl (look_d rfl rfl (pr hp 0 rfl rfl)) (fun _ => rfl) rfl callable30 (looks_cons (look_str (l := [97, 102, 116, 101, 114]) rfl (by decide)) (fun _ => rfl) (looks_cons (look_d rfl rfl (pr hp 1 rfl rfl)) (fun _ => rfl) (looks_cons (look_d rfl rfl (pr hp 2 rfl rfl)) (fun _ => rfl) (looks_nil))))) rfl rfl rfl .nil (outline_Right_1_v0_ok _ _ _ ([97, 102, 116, 101, 114] : Bytes) (decide (0 < (r_0.After.length : Int))) z23 z20) (fun _ _ => (wr_v (wr_c wr_n))) (fun z25α => o_eqOH ?_)
    refine o_weak (H' := [.vec z25α (Rep.str) z24, .obj true z3 0 (.dat (Rep.isvi (List Bytes) z25α)) z24, .vec (Value.slice none 0 0) (Rep.str) ([] : (List Bytes)), .obj true z1 0 (.dat T_api_Right_rep) r_0, .gone]) (sub_pick [0, 1, 2, 3, 4] rfl rfl) ?_
    refine o_weak sub_gone ?_
    refine o_weak (H' := [.obj true z3 0 (.dat (Rep.isvi (List Bytes) z25α)) z24, .vec (Value.slice none 0 0) (Rep.str) ([] : (List Bytes)), .obj true z1 0 (.dat T_api_Right_rep) r_0, .gone, .vec z25α (Rep.str) z24]) (sub_pick [2, 3, 4, 0, 1] rfl rfl) ?_
    apply h_endA (α := z22α) z25α
    · exact (.same (.same (.same (.same (.same (.same (.same (.same (.same (.same .nil))))))))))
    · exact rfl
    · exact rfl
    · exact rfl
    · exact hB z25α (fun k => S k || Nat.beq k 9) true (or_i rfl)
  refine den_weak (H' := [.obj true z3 0 (.dat (Rep.isvi (List Bytes) z22α)) z24, .vec (Value.slice none 0 0) (Rep.str) ([] : (List Bytes)), .obj true z1 0 (.dat T_api_Right_rep) r_0, .vec z22α (Rep.str) z24]) (sub_pick [0, 1, 2, 4] rfl rfl) ?_
  refine den_seq ?_
  refine den_open (fun z27 h_z27 => ?_)
  refine den_open (fun z28 h_z28 => ?_)
  have hB : ∀ (z26α : Value) (S : Nat → Bool) (b9 : Bool), S 9 = b9 → (([(cond (S 9) (.obj true z3 0 (.dat (Rep.isvi (List Bytes) z26α)) z28) (.obj true z3 0 (.dat (Rep.isvi (List Bytes) z22α)) z24)), .vec (Value.slice none 0 0) (Rep.str) ([] : (List Bytes)), .obj true z1 0 (.dat T_api_Right_rep) r_0, (cond (S 9) (.gone) (.vec z22α (Rep.str) z24)), (cond (S 9) (.vec (z26α) (Rep.str) z28) (.gone))] : List Go.Eng.Item)) = ([(cond b9 (.obj true z3 0 (.dat (Rep.isvi (List Bytes) z26α)) z28) (.obj true z3 0 (.dat (Rep.isvi (List Bytes) z22α)) z24)), .vec (Value.slice none 0 0) (Rep.str) ([] : (List Bytes)), .obj true z1 0 (.dat T_api_Right_rep) r_0, (cond b9 (.gone) (.vec z22α (Rep.str) z24)), (cond b9 (.vec (z26α) (Rep.str) z28) (.gone))] : List Go.Eng.Item) := fun z26α S b9 h9 => by subst h9; rfl
  refine den_weak sub_gone ?_
  refine den_weak (sub_pick (H' := [.obj true z3 0 (.dat (Rep.isvi (List Bytes) z22α)) z24, .vec (Value.slice none 0 0) (Rep.str) ([] : (List Bytes)), .obj true z1 0 (.dat T_api_Right_rep) r_0, .vec z22α (Rep.str) z24, .gone]) [1, 2, 3, 4, 0] rfl rfl) ?_
  refine den_drawA (A := Value) (H' := fun z26α => [.obj true z3 0 (.dat (Rep.isvi (List Bytes) z26α)) z28, .vec (Value.slice none 0 0) (Rep.str) ([] : (List Bytes)), .obj true z1 0 (.dat T_api_Right_rep) r_0, .gone, .vec (z26α) (Rep.str) z28]) (fun z26α => [(55, ⟨(Rep.clo 30 [⟨Rep.addr, (z3, 0), true⟩]), (), true⟩), (56, ⟨Rep.addr, (z1, 0 + 16), true⟩), (57, ⟨(T_api_Duty_rep).slice, r_0.Duties, true⟩), (58, ⟨Rep.int .i64, (r_0.Duties.length : Int), true⟩), (59, ⟨Rep.bool, decide (0 < (r_0.Duties.length : Int)), true⟩), (60, ⟨Rep.addr, (z1, 0 + 16), true⟩), (61, ⟨(T_api_Duty_rep).slice, r_0.Duties, true⟩), (62, ⟨Rep.int .i64, (r_0.Duties.length : Int), true⟩), (63, ⟨Rep.str, z27, true⟩), (64, ⟨Rep.unit, (), true⟩)]) (fun z26α S => [(cond (S 9) (.obj true z3 0 (.dat (Rep.isvi (List Bytes) z26α)) z28) (.obj true z3 0 (.dat (Rep.isvi (List Bytes) z22α)) z24)), .vec (Value.slice none 0 0) (Rep.str) ([] : (List Bytes)), .obj true z1 0 (.dat T_api_Right_rep) r_0, (cond (S 9) (.gone) (.vec z22α (Rep.str) z24)), (cond (S 9) (.vec (z26α) (Rep.str) z28) (.gone))]) (Value.slice none 0 0) mixed (fun _ => rfl) rfl rfl (fun z26α S hS => hB z26α S true (hS 9 (by decide))) ⟨?_, ?_, ?_, ?_, ?_, ?_, ?_, ?_, ?_, ?_, trivial⟩ (fun z26α => ?_)
  · intro z26α S hc hk hp
    have e9 : S 9 = false := (not_yet (j := 9) (q := 0) hc hk rfl rfl rfl rfl)
    refine eq_H (H' := [.obj true z3 0 (.dat (Rep.isvi (List Bytes) z22α)) z24, .vec (Value.slice none 0 0) (Rep.str) ([] : (List Bytes)), .obj true z1 0 (.dat T_api_Right_rep) r_0, .vec z22α (Rep.str) z24, .gone]) (by first | exact hB z26α S false e9 | (have q := hB z26α S false e9; simp only [cond_true, cond_false] at q; exact q)) ?_
    refine o_move rfl rfl guard_none (look_o rfl rfl) (fun _ => rfl) ?_
    apply h_endA (α := z26α) z26α
    · exact (.same (.same (.same (.same (.same (.same (.same (.same (.same (.same .nil))))))))))
    · exact rfl
    · exact rfl
    · exact rfl
    · exact hB z26α (fun k => S k || Nat.beq k 0) false (or_f e9 rfl)
  · intro z26α S hc hk hp
    have e9 : S 9 = false := (not_yet (j := 9) (q := 1) hc (not_yet (j := 4) (q := 0) hc (not_yet (j := 3) (q := 0) hc (not_yet (j := 2) (q := 0) hc hk rfl rfl rfl rfl) rfl rfl rfl rfl) rfl rfl rfl rfl) rfl rfl rfl rfl)
    refine eq_H (H' := [.obj true z3 0 (.dat (Rep.isvi (List Bytes) z22α)) z24, .vec (Value.slice none 0 0) (Rep.str) ([] : (List Bytes)), .obj true z1 0 (.dat T_api_Right_rep) r_0, .vec z22α (Rep.str) z24, .gone]) (by first | exact hB z26α S false e9 | (have q := hB z26α S false e9; simp only [cond_true, cond_false] at q; exact q)) ?_
    refine o_faddr field39_6 type37 (by decide) rfl rfl guard_none (look_o rfl rfl) (fun _ => rfl) ?_
    apply h_endA (α := z26α) z26α
    · exact (.same (.same (.same (.same (.same (.same (.same (.same (.same (.same .nil))))))))))
    · exact rfl
    · exact rfl
    · exact rfl
    · exact hB z26α (fun k => S k || Nat.beq k 1) false (or_f e9 rfl)
  · intro z26α S hc hk hp
    have e9 : S 9 = false := (not_yet (j := 9) (q := 1) hc (not_yet (j := 4) (q := 0) hc (not_yet (j := 3) (q := 0) hc hk rfl rfl rfl rfl) rfl rfl rfl rfl) rfl rfl rfl rfl)
    refine eq_H (H' := [.obj true z3 0 (.dat (Rep.isvi (List Bytes) z22α)) z24, .vec (Value.slice none 0 0) (Rep.str) ([] : (List Bytes)), .obj true z1 0 (.dat T_api_Right_rep) r_0, .vec z22α (Rep.str) z24, .gone]) (by first | exact hB z26α S false e9 | (have q := hB z26α S false e9; simp only [cond_true, cond_false] at q; exact q)) ?_
    refine o_oloadi 2 rfl type37 T_api_Right_foc6 rfl guard_none (look_d rfl rfl (pr hp 0 rfl rfl)) (fun _ => rfl) ?_
    apply h_endA (α := z26α) z26α
    · exact (.same (.same (.same (.same (.same (.same (.same (.same (.same (.same .nil))))))))))
    · exact rfl
    · exact rfl
    · exact rfl
    · exact hB z26α (fun k => S k || Nat.beq k 2) false (or_f e9 rfl)
  · intro z26α S hc hk hp
    have e9 : S 9 = false := (not_yet (j := 9) (q := 1) hc (not_yet (j := 4) (q := 0) hc hk rfl rfl rfl rfl) rfl rfl rfl rfl)
    refine eq_H (H' := [.obj true z3 0 (.dat (Rep.isvi (List Bytes) z22α)) z24, .vec (Value.slice none 0 0) (Rep.str) ([] : (List Bytes)), .obj true z1 0 (.dat T_api_Right_rep) r_0, .vec z22α (Rep.str) z24, .gone]) (by first | exact hB z26α S false e9 | (have q := hB z26α S false e9; simp only [cond_true, cond_false] at q; exact q)) ?_
    refine o_llen Tryd.underlying37 rfl rfl guard_none (look_d rfl rfl (pr hp 0 rfl rfl)) (fun _ => rfl) ?_
    apply h_endA (α := z26α) z26α
    · exact (.same (.same (.same (.same (.same (.same (.same (.same (.same (.same .nil))))))))))
    · exact rfl
    · exact rfl
    · exact rfl
    · exact hB z26α (fun k => S k || Nat.beq k 3) false (or_f e9 rfl)
  · intro z26α S hc hk hp
    have e9 : S 9 = false := (not_yet (j := 9) (q := 1) hc hk rfl rfl rfl rfl)
    refine eq_H (H' := [.obj true z3 0 (.dat (Rep.isvi (List Bytes) z22α)) z24, .vec (Value.slice none 0 0) (Rep.str) ([] : (List Bytes)), .obj true z1 0 (.dat T_api_Right_rep) r_0, .vec z22α (Rep.str) z24, .gone]) (by first | exact hB z26α S false e9 | (have q := hB z26α S false e9; simp only [cond_true, cond_false] at q; exact q)) ?_
    refine o_gtr rfl rfl guard_none (look_d rfl rfl (pr hp 0 rfl rfl)) (look_int rfl) (fun _ => rfl) (fun _ => rfl) ?_
    apply h_endA (α := z26α) z26α
    · exact (.same (.same (.same (.same (.same (.same (.same (.same (.same (.same .nil))))))))))
    · exact rfl
    · exact rfl
    · exact rfl
    · exact hB z26α (fun k => S k || Nat.beq k 4) false (or_f e9 rfl)
  · intro z26α S hc hk hp
    have e9 : S 9 = false := (not_yet (j := 9) (q := 2) hc (not_yet (j := 8) (q := 0) hc (not_yet (j := 7) (q := 0) hc (not_yet (j := 6) (q := 0) hc hk rfl rfl rfl rfl) rfl rfl rfl rfl) rfl rfl rfl rfl) rfl rfl rfl rfl)
    refine eq_H (H' := [.obj true z3 0 (.dat (Rep.isvi (List Bytes) z22α)) z24, .vec (Value.slice none 0 0) (Rep.str) ([] : (List Bytes)), .obj true z1 0 (.dat T_api_Right_rep) r_0, .vec z22α (Rep.str) z24, .gone]) (by first | exact hB z26α S false e9 | (have q := hB z26α S false e9; simp only [cond_true, cond_false] at q; exact q)) ?_
    refine o_faddr field39_6 type37 (by decide) rfl rfl guard_none (look_o rfl rfl) (fun _ => rfl) ?_
    apply h_endA (α := z26α) z26α
    · exact (.same (.same (.same (.same (.same (.same (.same (.same (.same (.same .nil))))))))))
    · exact rfl
    · exact rfl
    · exact rfl
    · exact hB z26α (fun k => S k || Nat.beq k 5) false (or_f e9 rfl)
  · intro z26α S hc hk hp
    have e9 : S 9 = false := (not_yet (j := 9) (q := 2) hc (not_yet (j := 8) (q := 0) hc (not_yet (j := 7) (q := 0) hc hk rfl rfl rfl rfl) rfl rfl rfl rfl) rfl rfl rfl rfl)
    refine eq_H (H' := [.obj true z3 0 (.dat (Rep.isvi (List Bytes) z22α)) z24, .vec (Value.slice none 0 0) (Rep.str) ([] : (List Bytes)), .obj true z1 0 (.dat T_api_Right_rep) r_0, .vec z22α (Rep.str) z24, .gone]) (by first | exact hB z26α S false e9 | (have q := hB z26α S false e9; simp only [cond_true, cond_false] at q; exact q)) ?_
    refine o_oloadi 2 rfl type37 T_api_Right_foc6 rfl guard_none (look_d rfl rfl (pr hp 0 rfl rfl)) (fun _ => rfl) ?_
    apply h_endA (α := z26α) z26α
    · exact (.same (.same (.same (.same (.same (.same (.same (.same (.same (.same .nil))))))))))
    · exact rfl
    · exact rfl
    · exact rfl
    · exact hB z26α (fun k => S k || Nat.beq k 6) false (or_f e9 rfl)
  · intro z26α S hc hk hp
    have e9 : S 9 = false := (not_yet (j := 9) (q := 2) hc (not_yet (j := 8) (q := 0) hc hk rfl rfl rfl rfl) rfl rfl rfl rfl)
    refine eq_H (H' := [.obj true z3 0 (.dat (Rep.isvi (List Bytes) z22α)) z24, .vec (Value.slice none 0 0) (Rep.str) ([] : (List Bytes)), .obj true z1 0 (.dat T_api_Right_rep) r_0, .vec z22α (Rep.str) z24, .gone]) (by first | exact hB z26α S false e9 | (have q := hB z26α S false e9; simp only [cond_true, cond_false] at q; exact q)) ?_
    refine o_llen Tryd.underlying37 rfl rfl guard_none (look_d rfl rfl (pr hp 0 rfl rfl)) (fun _ => rfl) ?_
    apply h_endA (α := z26α) z26α
    · exact (.same (.same (.same (.same (.same (.same (.same (.same (.same (.same .nil))))))))))
    · exact rfl
    · exact rfl
    · exact rfl
    · exact hB z26α (fun k => S k || Nat.beq k 7) false (or_f e9 rfl)
  · intro z26α S hc hk hp
    have e9 : S 9 = false := (not_yet (j := 9) (q := 2) hc hk rfl rfl rfl rfl)
    refine eq_H (H' := [.obj true z3 0 (.dat (Rep.isvi (List Bytes) z22α)) z24, .vec (Value.slice none 0 0) (Rep.str) ([] : (List Bytes)), .obj true z1 0 (.dat T_api_Right_rep) r_0, .vec z22α (Rep.str) z24, .gone]) (by first | exact hB z26α S false e9 | (have q := hB z26α S false e9; simp only [cond_true, cond_false] at q; exact q)) ?_
    refine o_from (bind_eqO h_z27) ?_
    refine o_call rfl rfl rfl callable17 (looks_cons (look_d rfl rfl (pr hp 0 rfl rfl)) (fun _ => rfl) (looks_nil)) (outline_decimal_ok _) (o_eqO ?_)
    apply h_endA (α := z26α) z26α
    · exact (.same (.same (.same (.same (.same (.same (.same (.same (.same (.same .nil))))))))))
    · exact rfl
    · exact rfl
    · exact rfl
    · exact hB z26α (fun k => S k || Nat.beq k 8) false (or_f e9 rfl)
  · intro z26α S hc hk hp
    refine eq_H (H' := [.obj true z3 0 (.dat (Rep.isvi (List Bytes) z22α)) z24, .vec (Value.slice none 0 0) (Rep.str) ([] : (List Bytes)), .obj true z1 0 (.dat T_api_Right_rep) r_0, .vec z22α (Rep.str) z24, .gone]) (by first | exact hB z26α S false hk | (have q := hB z26α S false hk; simp only [cond_true, cond_false] at q; exact q)) ?_
    refine o_from (bind_eqO h_z28) ?_
    refine o_weak (H' := [.vec z22α (Rep.str) z24, .obj true z3 0 (.dat (Rep.isvi (List Bytes) z22α)) z24] ++ ([] ++ [.vec (Value.slice none 0 0) (Rep.str) ([] : (List Bytes)), .obj true z1 0 (.dat T_api_Right_rep) r_0, .gone])) (sub_pick [3, 0, 1, 2, 4] rfl rfl) ?_
    refine o_callUE (enters_clo rfl (look_d rfl rfl (pr hp 0 rfl rfl)) (fun _ => rfl) rfl callable30 (looks_cons (look_str (l := [100, 117, 116, 105, 101, 115]) rfl (by decide)) (fun _ => rfl) (looks_cons (look_d rfl rfl (pr hp 1 rfl rfl)) (fun _ => rfl) (looks_cons (look_d rfl rfl (pr hp 2 rfl rfl)) (fun _ => rfl) (looks_nil))))) rfl rfl rfl .nil (outline_Right_1_v0_ok _ _ _ ([100, 117, 116, 105, 101, 115] : Bytes) (decide (0 < (r_0.Duties.length : Int))) z27 z24) (fun _ _ => (wr_v (wr_c wr_n))) (fun z29α => o_eqOH ?_)
    refine o_weak (H' := [.vec z29α (Rep.str) z28, .obj true z3 0 (.dat (Rep.isvi (List Bytes) z29α)) z28, .vec (Value.slice none 0 0) (Rep.str) ([] : (List Bytes)), .obj true z1 0 (.dat T_api_Right_rep) r_0, .gone]) (sub_pick [0, 1, 2, 3, 4] rfl rfl) ?_
    refine o_weak sub_gone ?_
    refine o_weak (H' := [.obj true z3 0 (.dat (Rep.isvi (List Bytes) z29α)) z28, .vec (Value.slice none 0 0) (Rep.str) ([] : (List Bytes)), .obj true z1 0 (.dat T_api_Right_rep) r_0, .gone, .vec z29α (Rep.str) z28]) (sub_pick [2, 3, 4, 0, 1] rfl rfl) ?_
    apply h_endA (α := z26α) z29α
    · exact (.same (.same (.same (.same (.same (.same (.same (.same (.same (.same .nil))))))))))
    · exact rfl
    · exact rfl
    · exact rfl
    · exact hB z29α (fun k => S k || Nat.beq k 9) true (or_i rfl)
  refine den_weak (H' := [.obj true z3 0 (.dat (Rep.isvi (List Bytes) z26α)) z28, .vec (Value.slice none 0 0) (Rep.str) ([] : (List Bytes)), .obj true z1 0 (.dat T_api_Right_rep) r_0, .vec z26α (Rep.str) z28]) (sub_pick [0, 1, 2, 4] rfl rfl) ?_
  refine den_seq ?_
  refine den_region rfl ?_
  refine o_oloadi 0 rfl (typeisv41 z26α) foc_isvi rfl guard_none (look_tmp rfl) (fun _ => rfl) ?_
  refine o_asv ?_
  refine o_assign rfl rfl guard_none (look_tmp rfl) (fun _ => rfl) ?_
  refine o_end ?_
  refine den_code_ret ?_
  exact dene_resI z26α (res1 rfl (rv_tmp rfl)) (fun _ _ _ k => ato_pick [3] rfl rfl k)

theorem law37_alive_ok (fuel : Nat)   : FunOkI Tryd.prog 5 [] [.obj false 0 0 (gfact 0 (Rep.arr 6 (Rep.str)) glob0) ()] (law37_alive fuel) (Rep.bool) (fun (α : Unit) (y : Bool) => y) (fun α y => []) := by
  refine fun_okI Tryd.func5 rfl Tryd.ntmps5 rfl all_nil (fun w0 ok0 M => ?_)
  refine den_seq ?_
  refine den_region rfl ?_
  refine o_assign rfl rfl guard_none look_bool (fun _ => rfl) ?_
  refine o_end ?_
  refine den_seq ?_
  refine den_region rfl ?_
  refine o_build (R := T_api_Verdict_rep0) (f := T_api_Verdict_tup) (y := (⟨3, 1, 0⟩ : T_api_Verdict)) shape27 rfl rfl rfl rfl guard_none (bld_part rfl rfl (look_int rfl) (fun _ => rfl) (bld_part rfl rfl (look_int rfl) (fun _ => rfl) (bld_zero (z_int rfl) (bld_nil)))) ?_
  refine o_buildE (R := T_api_Expr_rep0 T_api_Expr_rep) (f := T_api_Expr_tup) (y := (⟨2, [], 1, 0, 0, []⟩ : T_api_Expr)) T_api_Expr_eq shape35 rfl rfl rfl rfl guard_none (bld_part rfl rfl (look_int rfl) (fun _ => rfl) (bld_zero (z_str rfl) (bld_part rfl rfl (look_int rfl) (fun _ => rfl) (bld_zero (z_int rfl) (bld_zero (z_int rfl) (bld_zero (z_slice rfl) (bld_nil))))))) ?_
  refine o_alloc zero27 rfl rfl (fun z1 => ?_)
  refine o_alloc zero35 rfl rfl (fun z2 => ?_)
  refine o_weak (H' := [.obj true z1 0 (.dat T_api_Verdict_rep) T_api_Verdict_zero, .obj true z2 0 (.dat T_api_Expr_rep) T_api_Expr_zero, .obj false 0 0 (gfact 0 (Rep.arr 6 (Rep.str)) glob0) ()]) (sub_pick [1, 0, 2] rfl rfl) ?_
  refine o_ostore type27 foc_self guard_none (look_tmp rfl) (fun _ => rfl) (look_tmp rfl) (fun _ => rfl) ?_
  refine o_weak (H' := [.obj true z2 0 (.dat T_api_Expr_rep) T_api_Expr_zero, .obj true z1 0 (.dat T_api_Verdict_rep) (⟨3, 1, 0⟩ : T_api_Verdict), .obj false 0 0 (gfact 0 (Rep.arr 6 (Rep.str)) glob0) ()]) (sub_pick [1, 0, 2] rfl rfl) ?_
  refine o_ostore type35 foc_self guard_none (look_tmp rfl) (fun _ => rfl) (look_tmp rfl) (fun _ => rfl) ?_
  refine o_end ?_
  refine den_seq ?_
  refine den_region rfl ?_
  refine o_oloadi 1 rfl type27 foc_self rfl guard_none (look_tmp rfl) (fun _ => rfl) ?_
  refine o_weak (H' := [] ++ ([.obj false 0 0 (gfact 0 (Rep.arr 6 (Rep.str)) glob0) ()] ++ [.obj true z2 0 (.dat T_api_Expr_rep) (⟨2, [], 1, 0, 0, []⟩ : T_api_Expr), .obj true z1 0 (.dat T_api_Verdict_rep) (⟨3, 1, 0⟩ : T_api_Verdict)])) (sub_pick [2, 0, 1] rfl rfl) ?_
  refine o_callU rfl rfl rfl rfl rfl callable8 (looks_cons (look_tmp rfl) (fun _ => rfl) (looks_nil)) (.cons .nil) (outline_Verdict_ok (⟨3, 1, 0⟩ : T_api_Verdict)) (fun _ _ => wr_n) (fun z4α z3 => ?_)
  refine o_weak (H' := [.obj false 0 0 (gfact 0 (Rep.arr 6 (Rep.str)) glob0) (), .obj true z2 0 (.dat T_api_Expr_rep) (⟨2, [], 1, 0, 0, []⟩ : T_api_Expr), .obj true z1 0 (.dat T_api_Verdict_rep) (⟨3, 1, 0⟩ : T_api_Verdict)]) (sub_pick [0, 1, 2] rfl rfl) ?_
  refine o_seql rfl rfl guard_none (look_tmp rfl) (look_str (l := [51, 32, 103, 114, 97, 110, 116]) rfl (by decide)) (fun _ => rfl) (fun _ => rfl) ?_
  refine o_move rfl rfl guard_none (look_tmp rfl) (fun _ => rfl) ?_
  refine o_oloadi 2 rfl type27 foc_self rfl (guard_some rfl rfl rfl) (look_tmp rfl) (fun _ => rfl) ?_
  refine o_bslice Tryd.underlying23 (info_i info27) (info_z info27) type27 rfl rfl rfl rfl rfl rfl (guard_some rfl rfl rfl) (looksL_cons (look_tmp rfl) (fun h => h) (looksL_nil)) ?_
  refine o_build (R := T_record_Record_rep0) (f := T_record_Record_tup) (y := (⟨0, ([(⟨3, 1, 0⟩ : T_api_Verdict)] : List T_api_Verdict)⟩ : T_record_Record)) shape25 rfl rfl rfl rfl (guard_some rfl rfl rfl) (bld_zero (z_int rfl) (bld_part rfl rfl (look_tmp rfl) (fun h => h) (bld_nil))) ?_
  refine o_weak (H' := [] ++ ([.obj false 0 0 (gfact 0 (Rep.arr 6 (Rep.str)) glob0) ()] ++ [.obj true z2 0 (.dat T_api_Expr_rep) (⟨2, [], 1, 0, 0, []⟩ : T_api_Expr), .obj true z1 0 (.dat T_api_Verdict_rep) (⟨3, 1, 0⟩ : T_api_Verdict)])) (sub_pick [0, 1, 2] rfl rfl) ?_
  refine o_callX (its := []) ([] : Bytes) () rfl rfl rfl rfl (guard_some rfl rfl rfl) callable9 (looks_cons (look_tmp rfl) (fun h => h) (looks_nil)) (.cons .nil) (outline_Record_ok (⟨0, ([(⟨3, 1, 0⟩ : T_api_Verdict)] : List T_api_Verdict)⟩ : T_record_Record)) (fun _ _ => wr_n) ?_ (fun z6α z5 => ?_)
  · exact fun _ => rfl
  refine o_weak (H' := [.obj false 0 0 (gfact 0 (Rep.arr 6 (Rep.str)) glob0) (), .obj true z2 0 (.dat T_api_Expr_rep) (⟨2, [], 1, 0, 0, []⟩ : T_api_Expr), .obj true z1 0 (.dat T_api_Verdict_rep) (⟨3, 1, 0⟩ : T_api_Verdict)]) (sub_pick [0, 1, 2] rfl rfl) ?_
  refine o_seql rfl rfl (guard_some rfl rfl rfl) (look_tmp rfl) (look_str (l := [48, 59, 32, 51, 32, 103, 114, 97, 110, 116]) rfl (by decide)) (fun h => h) (fun _ => rfl) ?_
  refine o_pick rfl rfl guard_none (look_tmp rfl) (look_tmp rfl) look_bool (fun _ => rfl) (fun h1 h2 => pick_t ((fun _ => rfl) h1) h2) (fun _ _ => rfl) ?_
  refine o_move rfl rfl guard_none (look_tmp rfl) (fun _ => rfl) ?_
  refine o_build (R := T_api_Value_rep0) (f := T_api_Value_tup) (y := (⟨1, (-4), [], []⟩ : T_api_Value)) shape50 rfl rfl rfl rfl (guard_some rfl rfl rfl) (bld_part rfl rfl (look_int rfl) (fun _ => rfl) (bld_part rfl rfl (look_int rfl) (fun _ => rfl) (bld_zero (z_str rfl) (bld_zero (z_slice rfl) (bld_nil))))) ?_
  refine o_callg rfl rfl rfl (guard_some rfl rfl rfl) callable16 (looks_cons (look_tmp rfl) (fun h => h) (looks_nil)) (outline_Value_ok _) (fun z7 => ?_)
  refine o_seql rfl rfl (guard_some rfl rfl rfl) (look_tmp rfl) (look_str (l := [45, 52]) rfl (by decide)) (fun h => h) (fun _ => rfl) ?_
  refine o_pick rfl rfl guard_none (look_tmp rfl) (look_tmp rfl) look_bool (fun _ => rfl) (fun h1 h2 => pick_t ((fun _ => rfl) h1) h2) (fun _ _ => rfl) ?_
  refine o_move rfl rfl guard_none (look_tmp rfl) (fun _ => rfl) ?_
  refine o_oloadi 1 rfl type35 foc_self rfl (guard_some rfl rfl rfl) (look_tmp rfl) (fun _ => rfl) ?_
  refine o_oloadi 1 rfl type35 foc_self rfl (guard_some rfl rfl rfl) (look_tmp rfl) (fun _ => rfl) ?_
  refine o_build (R := T_api_Duty_rep0) (f := T_api_Duty_tup) (y := (⟨[], [], [], 0, false⟩ : T_api_Duty)) shape52 rfl rfl rfl rfl (guard_some rfl rfl rfl) (bld_zero (z_str rfl) (bld_zero (z_str rfl) (bld_zero (z_str rfl) (bld_zero (z_int rfl) (bld_zero (z_bool rfl) (bld_nil)))))) ?_
  refine o_bslice Tryd.underlying37 (info_i info52) (info_z info52) type52 rfl rfl rfl rfl rfl rfl (guard_some rfl rfl rfl) (looksL_cons (look_tmp rfl) (fun h => h) (looksL_nil)) ?_
  refine o_build (R := T_api_Right_rep0) (f := T_api_Right_tup) (y := (⟨([114] : Bytes), (⟨2, [], 1, 0, 0, []⟩ : T_api_Expr), (⟨2, [], 1, 0, 0, []⟩ : T_api_Expr), [], [], [], ([(⟨[], [], [], 0, false⟩ : T_api_Duty)] : List T_api_Duty)⟩ : T_api_Right)) shape39 rfl rfl rfl rfl (guard_some rfl rfl rfl) (bld_part rfl rfl (look_str (l := [114]) rfl (by decide)) (fun _ => rfl) (bld_part rfl rfl (look_tmp rfl) (fun h => h) (bld_part rfl rfl (look_tmp rfl) (fun h => h) (bld_zero (z_slice rfl) (bld_zero (z_slice rfl) (bld_zero (z_slice rfl) (bld_part rfl rfl (look_tmp rfl) (fun h => h) (bld_nil)))))))) ?_
  refine o_weak (H' := [] ++ ([] ++ [.obj false 0 0 (gfact 0 (Rep.arr 6 (Rep.str)) glob0) (), .obj true z2 0 (.dat T_api_Expr_rep) (⟨2, [], 1, 0, 0, []⟩ : T_api_Expr), .obj true z1 0 (.dat T_api_Verdict_rep) (⟨3, 1, 0⟩ : T_api_Verdict)])) (sub_pick [0, 1, 2] rfl rfl) ?_
  refine o_callX (its := []) ([] : (List Bytes)) (Value.slice none 0 0) rfl rfl rfl rfl (guard_some rfl rfl rfl) callable15 (looks_cons (look_tmp rfl) (fun h => h) (looks_nil)) .nil (fun_frozen (outline_Right_ok fuel (⟨([114] : Bytes), (⟨2, [], 1, 0, 0, []⟩ : T_api_Expr), (⟨2, [], 1, 0, 0, []⟩ : T_api_Expr), [], [], [], ([(⟨[], [], [], 0, false⟩ : T_api_Duty)] : List T_api_Duty)⟩ : T_api_Right))) (fun _ _ => wr_n) ?_ (fun z9α z8 => ?_)
  · exact fun _ => rfl
  refine o_weak (H' := [.obj false 0 0 (gfact 0 (Rep.arr 6 (Rep.str)) glob0) (), .obj true z2 0 (.dat T_api_Expr_rep) (⟨2, [], 1, 0, 0, []⟩ : T_api_Expr), .obj true z1 0 (.dat T_api_Verdict_rep) (⟨3, 1, 0⟩ : T_api_Verdict)]) (sub_pick [0, 1, 2] rfl rfl) ?_
  refine o_llen Tryd.underlying41 rfl rfl (guard_some rfl rfl rfl) (look_tmp rfl) (fun h => h) ?_
  refine o_eql rfl rfl (guard_some rfl rfl rfl) (look_tmp rfl) (look_int rfl) (fun h => h) (fun _ => rfl) ?_
  refine o_pick rfl rfl guard_none (look_tmp rfl) (look_tmp rfl) look_bool (fun _ => rfl) (fun h1 h2 => pick_t ((fun _ => rfl) h1) h2) (fun _ _ => rfl) ?_
  refine o_assign rfl rfl guard_none (look_tmp rfl) (fun _ => rfl) ?_
  refine o_lt (fun z10 => ?_)
  refine o_end ?_
  refine den_code_ret ?_
  exact dene_resI () (res1 rfl (rv_tmp rfl)) (fun _ _ _ k => ato_pick [] rfl rfl k)

theorem ref01_Decimal_ok  (n_0 : Int) : FunOk Tryd.prog 6 [⟨Rep.int .i64, n_0, true⟩] (ref01_Decimal n_0) (Rep.str) := by
  refine fun_ok Tryd.func6 rfl Tryd.ntmps6 rfl (all_cons rfl all_nil) (fun w0 ok0 => ?_)
  refine den_seq ?_
  refine den_region rfl ?_
  refine o_assign rfl rfl guard_none (look_str (l := []) rfl (by decide)) (fun _ => rfl) ?_
  refine o_end ?_
  refine den_seq ?_
  refine den_seq ?_
  refine den_region rfl ?_
  refine o_move rfl rfl guard_none (look_tmp rfl) (fun _ => rfl) ?_
  refine o_eql rfl rfl guard_none (look_tmp rfl) (look_int rfl) (fun _ => rfl) (fun _ => rfl) ?_
  refine o_end ?_
  refine den_cond (look_tmp rfl) ?_ ?_
  · refine den_seq ?_
    refine den_region rfl ?_
    refine o_assign rfl rfl guard_none (look_str (l := [48]) rfl (by decide)) (fun _ => rfl) ?_
    refine o_end ?_
    refine den_code_ret ?_
    refine dene_ret ?_
    exact dene_res (res1 rfl (rv_tmp rfl))
  · refine den_skip ?_
    refine den_seq ?_
    refine den_region rfl ?_
    refine o_assign rfl rfl guard_none (look_str (l := []) rfl (by decide)) (fun _ => rfl) ?_
    refine o_end ?_
    refine den_seq ?_
    refine den_seq ?_
    refine den_region rfl ?_
    refine o_move rfl rfl guard_none (look_tmp rfl) (fun _ => rfl) ?_
    refine o_assign rfl rfl guard_none (look_tmp rfl) (fun _ => rfl) ?_
    refine o_end ?_
    refine den_bind (fun z1 => [(3, ⟨Rep.str, z1, true⟩), (0, ⟨Rep.int .i64, n_0, true⟩)]) (fun z1 => []) ?_ (fun z1 => ?_)
    · refine den_block ?_
      refine den_loop (ref01_Decimal_L1b ) (fun z3 => [(3, ⟨Rep.str, z3.1, true⟩), (4, ⟨Rep.int .i64, z3.2, true⟩), (0, ⟨Rep.int .i64, n_0, true⟩)]) (fun z3 => []) (([] : Bytes), n_0) (fun z3 => ?_) ((sub_env (sube_cons rfl (sube_cons rfl (sube_cons rfl (sube_nil))))))
      refine den_seq ?_
      refine den_seq ?_
      refine den_region rfl ?_
      refine o_move rfl rfl guard_none (look_tmp rfl) (fun _ => rfl) ?_
      refine o_neq rfl rfl guard_none (look_tmp rfl) (look_int rfl) (fun _ => rfl) (fun _ => rfl) ?_
      refine o_end ?_
      refine den_cond (look_tmp rfl) ?_ ?_
      · refine den_skip ?_
        refine den_seq ?_
        refine den_block ?_
        refine den_seq ?_
        refine den_region rfl ?_
        refine o_move rfl rfl guard_none (look_tmp rfl) (fun _ => rfl) ?_
        refine o_rem (by decide) rfl rfl guard_none (look_tmp rfl) (look_int rfl) (fun _ => rfl) (fun _ => rfl) ?_
        refine o_assign rfl rfl guard_none (look_tmp rfl) (fun _ => rfl) ?_
        refine o_end ?_
        refine den_seq ?_
        refine den_seq ?_
        refine den_region rfl ?_
        refine o_move rfl rfl guard_none (look_tmp rfl) (fun _ => rfl) ?_
        refine o_lss rfl rfl guard_none (look_tmp rfl) (look_int rfl) (fun _ => rfl) (fun _ => rfl) ?_
        refine o_end ?_
        refine den_cond (look_tmp rfl) ?_ ?_
        · refine den_region rfl ?_
          refine o_move rfl rfl guard_none (look_tmp rfl) (fun _ => rfl) ?_
          refine o_neg rfl rfl guard_none (look_tmp rfl) (fun _ => rfl) ?_
          refine o_assign rfl rfl guard_none (look_tmp rfl) (fun _ => rfl) ?_
          refine o_lt (fun d4 => ?_)
          refine o_end ?_
          refine den_region rfl ?_
          refine o_move rfl rfl guard_none (look_tmp rfl) (fun _ => rfl) ?_
          refine o_add rfl rfl guard_none (look_int rfl) (look_tmp rfl) (fun _ => rfl) (fun _ => rfl) ?_
          refine o_conv Tryd.underlying2 Tryd.underlying5 rfl rfl guard_none (look_tmp rfl) (fun _ => rfl) ?_
          refine o_bslice Tryd.underlying53 (info_i info5) (info_z info5) type5 rfl rfl rfl rfl rfl rfl guard_none (looksL_cons (look_tmp rfl) (fun _ => rfl) (looksL_nil)) ?_
          refine o_bts Tryd.underlying53 Tryd.underlying5 Tryd.underlying9 rfl rfl guard_none (look_tmp rfl) (fun _ => rfl) ?_
          refine o_move rfl rfl guard_none (look_tmp rfl) (fun _ => rfl) ?_
          refine o_sadd rfl rfl (look_tmp rfl) (look_tmp rfl) rfl rfl (fun z5 => ?_)
          refine o_assign rfl rfl guard_none (look_tmp rfl) (fun _ => rfl) ?_
          refine o_end ?_
          refine den_blkend ?_
          refine den_region rfl ?_
          refine o_move rfl rfl guard_none (look_tmp rfl) (fun _ => rfl) ?_
          refine o_quo rfl rfl guard_none (look_tmp rfl) (look_int rfl) (fun _ => rfl) (fun _ => rfl) (by decide) ?_
          refine o_assign rfl rfl guard_none (look_tmp rfl) (fun _ => rfl) ?_
          refine o_end ?_
          refine den_next ((sub_env (sube_cons rfl (sube_cons rfl (sube_cons rfl (sube_nil))))))
        · refine den_skip ?_
          refine den_region rfl ?_
          refine o_move rfl rfl guard_none (look_tmp rfl) (fun _ => rfl) ?_
          refine o_add rfl rfl guard_none (look_int rfl) (look_tmp rfl) (fun _ => rfl) (fun _ => rfl) ?_
          refine o_conv Tryd.underlying2 Tryd.underlying5 rfl rfl guard_none (look_tmp rfl) (fun _ => rfl) ?_
          refine o_bslice Tryd.underlying53 (info_i info5) (info_z info5) type5 rfl rfl rfl rfl rfl rfl guard_none (looksL_cons (look_tmp rfl) (fun _ => rfl) (looksL_nil)) ?_
          refine o_bts Tryd.underlying53 Tryd.underlying5 Tryd.underlying9 rfl rfl guard_none (look_tmp rfl) (fun _ => rfl) ?_
          refine o_move rfl rfl guard_none (look_tmp rfl) (fun _ => rfl) ?_
          refine o_sadd rfl rfl (look_tmp rfl) (look_tmp rfl) rfl rfl (fun z6 => ?_)
          refine o_assign rfl rfl guard_none (look_tmp rfl) (fun _ => rfl) ?_
          refine o_end ?_
          refine den_blkend ?_
          refine den_region rfl ?_
          refine o_move rfl rfl guard_none (look_tmp rfl) (fun _ => rfl) ?_
          refine o_quo rfl rfl guard_none (look_tmp rfl) (look_int rfl) (fun _ => rfl) (fun _ => rfl) (by decide) ?_
          refine o_assign rfl rfl guard_none (look_tmp rfl) (fun _ => rfl) ?_
          refine o_end ?_
          refine den_next ((sub_env (sube_cons rfl (sube_cons rfl (sube_cons rfl (sube_nil))))))
      · refine den_code_exit ?_
        refine dene_out rfl ?_
        refine dene_loop (by simp) ?_
        refine dene_to rfl ?_
        refine den_end ((sub_env (sube_cons rfl (sube_cons rfl (sube_nil)))))
    refine den_seq ?_
    refine den_seq ?_
    refine den_region rfl ?_
    refine o_move rfl rfl guard_none (look_tmp rfl) (fun _ => rfl) ?_
    refine o_lss rfl rfl guard_none (look_tmp rfl) (look_int rfl) (fun _ => rfl) (fun _ => rfl) ?_
    refine o_end ?_
    refine den_cond (look_tmp rfl) ?_ ?_
    · refine den_region rfl ?_
      refine o_move rfl rfl guard_none (look_tmp rfl) (fun _ => rfl) ?_
      refine o_sadd rfl rfl (look_str (l := [45]) rfl (by decide)) (look_tmp rfl) rfl rfl (fun z2 => ?_)
      refine o_assign rfl rfl guard_none (look_tmp rfl) (fun _ => rfl) ?_
      refine o_end ?_
      refine den_seq ?_
      refine den_region rfl ?_
      refine o_move rfl rfl guard_none (look_tmp rfl) (fun _ => rfl) ?_
      refine o_assign rfl rfl guard_none (look_tmp rfl) (fun _ => rfl) ?_
      refine o_end ?_
      refine den_code_ret ?_
      exact dene_res (res1 rfl (rv_tmp rfl))
    · refine den_skip ?_
      refine den_seq ?_
      refine den_region rfl ?_
      refine o_move rfl rfl guard_none (look_tmp rfl) (fun _ => rfl) ?_
      refine o_assign rfl rfl guard_none (look_tmp rfl) (fun _ => rfl) ?_
      refine o_end ?_
      refine den_code_ret ?_
      exact dene_res (res1 rfl (rv_tmp rfl))

theorem law37_verdict_ok  (v_0 : T_api_Verdict) : FunOk Tryd.prog 7 [⟨T_api_Verdict_rep, v_0, true⟩] (law37_verdict v_0) (Rep.str) := by
  refine fun_ok Tryd.func7 rfl Tryd.ntmps7 rfl (all_cons rfl all_nil) (fun w0 ok0 => ?_)
  refine den_seq ?_
  refine den_region rfl ?_
  refine o_box rfl rfl (look_tmp rfl) rfl (fun z1 => ?_)
  refine o_assign rfl rfl guard_none (look_str (l := []) rfl (by decide)) (fun _ => rfl) ?_
  refine o_end ?_
  refine den_seq ?_
  refine den_region rfl ?_
  refine o_buildarr Tryd.underlying54 (info_i info54) (info_z info54) rfl (info_i info9) (info_all info9).2.1 rfl rfl rfl rfl rfl guard_none (.cons (look_str (l := []) rfl (by decide)) (fun _ => rfl) (.cons (look_str (l := [103, 114, 97, 110, 116]) rfl (by decide)) (fun _ => rfl) (.cons (look_str (l := [100, 101, 110, 121]) rfl (by decide)) (fun _ => rfl) (.cons (look_str (l := [103, 111]) rfl (by decide)) (fun _ => rfl) (.cons (look_str (l := [114, 101, 118, 111, 107, 101]) rfl (by decide)) (fun _ => rfl) (.cons (look_str (l := [101, 110, 100]) rfl (by decide)) (fun _ => rfl) .nil)))))) ?_
  refine o_alloc zero54 rfl rfl (fun z2 => ?_)
  refine o_ostore type54 foc_self guard_none (look_tmp rfl) (fun _ => rfl) (look_tmp rfl) (fun _ => rfl) ?_
  refine o_end ?_
  refine den_seq ?_
  refine den_region rfl ?_
  refine o_faddr field27_0 type3 (by decide) rfl rfl guard_none (look_tmp rfl) (fun _ => rfl) ?_
  refine o_oloadi 1 rfl type3 T_api_Verdict_foc0 rfl guard_none (look_tmp rfl) (fun _ => rfl) ?_
  refine o_call rfl rfl rfl callable6 (looks_cons (look_tmp rfl) (fun _ => rfl) (looks_nil)) (ref01_Decimal_ok _) (fun z3 => ?_)
  refine o_sadd rfl rfl (look_tmp rfl) (look_str (l := [32]) rfl (by decide)) rfl rfl (fun z4 => ?_)
  refine o_assign rfl rfl guard_none (look_tmp rfl) (fun _ => rfl) ?_
  refine o_end ?_
  refine den_seq ?_
  refine den_seq ?_
  refine den_region rfl ?_
  refine o_faddr field27_1 type3 (by decide) rfl rfl guard_none (look_tmp rfl) (fun _ => rfl) ?_
  refine o_oloadi 1 rfl type3 T_api_Verdict_foc1 rfl guard_none (look_tmp rfl) (fun _ => rfl) ?_
  refine o_gtr rfl rfl guard_none (look_tmp rfl) (look_int rfl) (fun _ => rfl) (fun _ => rfl) ?_
  refine o_move rfl rfl guard_none (look_tmp rfl) (fun _ => rfl) ?_
  refine o_faddr field27_1 type3 (by decide) rfl rfl (guard_some rfl rfl rfl) (look_tmp rfl) (fun _ => rfl) ?_
  refine o_oloadi 1 rfl type3 T_api_Verdict_foc1 rfl (guard_some rfl rfl rfl) (look_tmp rfl) (fun h => h) ?_
  refine o_lss rfl rfl (guard_some rfl rfl rfl) (look_tmp rfl) (look_int rfl) (fun h => h) (fun _ => rfl) ?_
  refine o_pick rfl rfl guard_none (look_tmp rfl) (look_tmp rfl) look_bool (fun _ => rfl) (fun h1 h2 => pick_t ((fun _ => rfl) h1) h2) (fun _ _ => rfl) ?_
  refine o_end ?_
  refine den_cond (look_tmp rfl) ?_ ?_
  · refine den_region rfl ?_
    refine o_move rfl rfl guard_none (look_tmp rfl) (fun _ => rfl) ?_
    refine o_faddr field27_1 type3 (by decide) rfl rfl guard_none (look_tmp rfl) (fun _ => rfl) ?_
    refine o_oloadi 1 rfl type3 T_api_Verdict_foc1 rfl guard_none (look_tmp rfl) (fun _ => rfl) ?_
    refine o_iarr (xs := ([([] : Bytes), ([103, 114, 97, 110, 116] : Bytes), ([100, 101, 110, 121] : Bytes), ([103, 111] : Bytes), ([114, 101, 118, 111, 107, 101] : Bytes), ([101, 110, 100] : Bytes)] : (List Bytes))) Tryd.underlying54 (info_i info9) (info_all info9).2.1 rfl rfl rfl (look_tmp rfl) (look_tmp rfl) rfl rfl (fun z5 h_z5 => ?_)
    refine o_oloadi 0 rfl type9 (foc_arr (n := 6) (j := z5) (z := ([] : Bytes)) rfl trivial (at_lt h_z5)) rfl guard_none (look_tmp rfl) (fun _ => rfl) ?_
    refine o_sadd rfl rfl (look_tmp rfl) (look_tmp rfl) rfl rfl (fun z6 => ?_)
    refine o_assign rfl rfl guard_none (look_tmp rfl) (fun _ => rfl) ?_
    refine o_end ?_
    refine den_seq ?_
    refine den_seq ?_
    refine den_region rfl ?_
    refine o_faddr field27_2 type22 (by decide) rfl rfl guard_none (look_tmp rfl) (fun _ => rfl) ?_
    refine o_oloadi 1 rfl type22 T_api_Verdict_foc2 rfl guard_none (look_tmp rfl) (fun _ => rfl) ?_
    refine o_neq rfl rfl guard_none (look_tmp rfl) (look_int rfl) (fun _ => rfl) (fun _ => rfl) ?_
    refine o_end ?_
    refine den_cond (look_tmp rfl) ?_ ?_
    · refine den_region rfl ?_
      refine o_move rfl rfl guard_none (look_tmp rfl) (fun _ => rfl) ?_
      refine o_sadd rfl rfl (look_tmp rfl) (look_str (l := [32]) rfl (by decide)) rfl rfl (fun z7 => ?_)
      refine o_faddr field27_2 type22 (by decide) rfl rfl guard_none (look_tmp rfl) (fun _ => rfl) ?_
      refine o_oloadi 1 rfl type22 T_api_Verdict_foc2 rfl guard_none (look_tmp rfl) (fun _ => rfl) ?_
      refine o_call rfl rfl rfl callable6 (looks_cons (look_tmp rfl) (fun _ => rfl) (looks_nil)) (ref01_Decimal_ok _) (fun z8 => ?_)
      refine o_sadd rfl rfl (look_tmp rfl) (look_tmp rfl) rfl rfl (fun z9 => ?_)
      refine o_assign rfl rfl guard_none (look_tmp rfl) (fun _ => rfl) ?_
      refine o_end ?_
      refine den_seq ?_
      refine den_region rfl ?_
      refine o_move rfl rfl guard_none (look_tmp rfl) (fun _ => rfl) ?_
      refine o_assign rfl rfl guard_none (look_tmp rfl) (fun _ => rfl) ?_
      refine o_end ?_
      refine den_code_ret ?_
      exact dene_res (res1 rfl (rv_tmp rfl))
    · refine den_skip ?_
      refine den_seq ?_
      refine den_region rfl ?_
      refine o_move rfl rfl guard_none (look_tmp rfl) (fun _ => rfl) ?_
      refine o_assign rfl rfl guard_none (look_tmp rfl) (fun _ => rfl) ?_
      refine o_end ?_
      refine den_code_ret ?_
      exact dene_res (res1 rfl (rv_tmp rfl))
  · refine den_region rfl ?_
    refine o_move rfl rfl guard_none (look_tmp rfl) (fun _ => rfl) ?_
    refine o_faddr field27_1 type3 (by decide) rfl rfl guard_none (look_tmp rfl) (fun _ => rfl) ?_
    refine o_oloadi 1 rfl type3 T_api_Verdict_foc1 rfl guard_none (look_tmp rfl) (fun _ => rfl) ?_
    refine o_call rfl rfl rfl callable6 (looks_cons (look_tmp rfl) (fun _ => rfl) (looks_nil)) (ref01_Decimal_ok _) (fun z10 => ?_)
    refine o_sadd rfl rfl (look_tmp rfl) (look_tmp rfl) rfl rfl (fun z11 => ?_)
    refine o_assign rfl rfl guard_none (look_tmp rfl) (fun _ => rfl) ?_
    refine o_end ?_
    refine den_seq ?_
    refine den_seq ?_
    refine den_region rfl ?_
    refine o_faddr field27_2 type22 (by decide) rfl rfl guard_none (look_tmp rfl) (fun _ => rfl) ?_
    refine o_oloadi 1 rfl type22 T_api_Verdict_foc2 rfl guard_none (look_tmp rfl) (fun _ => rfl) ?_
    refine o_neq rfl rfl guard_none (look_tmp rfl) (look_int rfl) (fun _ => rfl) (fun _ => rfl) ?_
    refine o_end ?_
    refine den_cond (look_tmp rfl) ?_ ?_
    · refine den_region rfl ?_
      refine o_move rfl rfl guard_none (look_tmp rfl) (fun _ => rfl) ?_
      refine o_sadd rfl rfl (look_tmp rfl) (look_str (l := [32]) rfl (by decide)) rfl rfl (fun z12 => ?_)
      refine o_faddr field27_2 type22 (by decide) rfl rfl guard_none (look_tmp rfl) (fun _ => rfl) ?_
      refine o_oloadi 1 rfl type22 T_api_Verdict_foc2 rfl guard_none (look_tmp rfl) (fun _ => rfl) ?_
      refine o_call rfl rfl rfl callable6 (looks_cons (look_tmp rfl) (fun _ => rfl) (looks_nil)) (ref01_Decimal_ok _) (fun z13 => ?_)
      refine o_sadd rfl rfl (look_tmp rfl) (look_tmp rfl) rfl rfl (fun z14 => ?_)
      refine o_assign rfl rfl guard_none (look_tmp rfl) (fun _ => rfl) ?_
      refine o_end ?_
      refine den_seq ?_
      refine den_region rfl ?_
      refine o_move rfl rfl guard_none (look_tmp rfl) (fun _ => rfl) ?_
      refine o_assign rfl rfl guard_none (look_tmp rfl) (fun _ => rfl) ?_
      refine o_end ?_
      refine den_code_ret ?_
      exact dene_res (res1 rfl (rv_tmp rfl))
    · refine den_skip ?_
      refine den_seq ?_
      refine den_region rfl ?_
      refine o_move rfl rfl guard_none (look_tmp rfl) (fun _ => rfl) ?_
      refine o_assign rfl rfl guard_none (look_tmp rfl) (fun _ => rfl) ?_
      refine o_end ?_
      refine den_code_ret ?_
      exact dene_res (res1 rfl (rv_tmp rfl))

theorem law37_OutlineVerdicts_ok (fuel : Nat)  (r_0 : T_record_Record) (v_1 : T_api_Verdict) : FunOkI Tryd.prog 3 [⟨T_record_Record_rep, r_0, true⟩, ⟨T_api_Verdict_rep, v_1, true⟩] [.obj false 0 0 (gfact 0 (Rep.arr 6 (Rep.str)) glob0) ()] (law37_OutlineVerdicts fuel r_0 v_1) (Rep.bool) (fun (α : Unit) (y : Bool) => y) (fun α y => []) := by
  refine fun_okI Tryd.func3 rfl Tryd.ntmps3 rfl (all_cons rfl (all_cons rfl all_nil)) (fun w0 ok0 M => ?_)
  refine den_seq ?_
  refine den_region rfl ?_
  refine o_box rfl rfl (look_tmp rfl) rfl (fun z1 => ?_)
  refine o_box rfl rfl (look_tmp rfl) rfl (fun z2 => ?_)
  refine o_assign rfl rfl guard_none look_bool (fun _ => rfl) ?_
  refine o_end ?_
  refine den_seq ?_
  refine den_seq ?_
  refine den_region rfl ?_
  refine o_weak (H' := [] ++ ([.obj false 0 0 (gfact 0 (Rep.arr 6 (Rep.str)) glob0) ()] ++ [.obj true z2 0 (.dat T_api_Verdict_rep) v_1, .obj true z1 0 (.dat T_record_Record_rep) r_0])) (sub_pick [2, 0, 1] rfl rfl) ?_
  refine o_callU rfl rfl rfl rfl rfl callable5 (looks_nil) (.cons .nil) (law37_alive_ok fuel ) (fun _ _ => wr_n) (fun z4α z3 => ?_)
  refine o_weak (H' := [.obj false 0 0 (gfact 0 (Rep.arr 6 (Rep.str)) glob0) (), .obj true z2 0 (.dat T_api_Verdict_rep) v_1, .obj true z1 0 (.dat T_record_Record_rep) r_0]) (sub_pick [0, 1, 2] rfl rfl) ?_
  refine o_not rfl rfl guard_none (look_tmp rfl) (fun _ => rfl) ?_
  refine o_end ?_
  refine den_cond (look_tmp rfl) ?_ ?_
  · refine den_seq ?_
    refine den_region rfl ?_
    refine o_assign rfl rfl guard_none look_bool (fun _ => rfl) ?_
    refine o_end ?_
    refine den_code_ret ?_
    refine dene_ret ?_
    exact dene_resI () (res1 rfl (rv_tmp rfl)) (fun _ _ _ k => ato_pick [] rfl rfl k)
  · refine den_skip ?_
    refine den_seq ?_
    refine den_region rfl ?_
    refine o_faddr field25_0 type22 (by decide) rfl rfl guard_none (look_tmp rfl) (fun _ => rfl) ?_
    refine o_oloadi 2 rfl type22 T_record_Record_foc0 rfl guard_none (look_tmp rfl) (fun _ => rfl) ?_
    refine o_call rfl rfl rfl callable6 (looks_cons (look_tmp rfl) (fun _ => rfl) (looks_nil)) (ref01_Decimal_ok _) (fun z5 => ?_)
    refine o_assign rfl rfl guard_none (look_tmp rfl) (fun _ => rfl) ?_
    refine o_end ?_
    refine den_seq ?_
    refine den_seq ?_
    refine den_region rfl ?_
    refine o_assign rfl rfl guard_none (look_int rfl) (fun _ => rfl) ?_
    refine o_end ?_
    refine den_bind (fun z6 => [(5, ⟨Rep.str, z6, true⟩), (2, ⟨Rep.addr, (z1, 0), true⟩), (3, ⟨Rep.addr, (z2, 0), true⟩)]) (fun z6 => [.obj false 0 0 (gfact 0 (Rep.arr 6 (Rep.str)) glob0) (), .obj true z2 0 (.dat T_api_Verdict_rep) v_1, .obj true z1 0 (.dat T_record_Record_rep) r_0]) ?_ (fun z6 => ?_)
    · refine den_block ?_
      refine den_loop (law37_OutlineVerdicts_L1b r_0) (fun z12 => [(5, ⟨Rep.str, z12.1, true⟩), (6, ⟨Rep.int .i64, z12.2, true⟩), (2, ⟨Rep.addr, (z1, 0), true⟩), (3, ⟨Rep.addr, (z2, 0), true⟩)]) (fun z12 => [.obj false 0 0 (gfact 0 (Rep.arr 6 (Rep.str)) glob0) (), .obj true z2 0 (.dat T_api_Verdict_rep) v_1, .obj true z1 0 (.dat T_record_Record_rep) r_0]) (z5, 0) (fun z12 => ?_) ((sub_env (sube_cons rfl (sube_cons rfl (sube_cons rfl (sube_cons rfl (sube_nil)))))))
      refine den_seq ?_
      refine den_seq ?_
      refine den_region rfl ?_
      refine o_move rfl rfl guard_none (look_tmp rfl) (fun _ => rfl) ?_
      refine o_faddr field25_1 type23 (by decide) rfl rfl guard_none (look_tmp rfl) (fun _ => rfl) ?_
      refine o_oloadi 2 rfl type23 T_record_Record_foc1 rfl guard_none (look_tmp rfl) (fun _ => rfl) ?_
      refine o_llen Tryd.underlying23 rfl rfl guard_none (look_tmp rfl) (fun _ => rfl) ?_
      refine o_lss rfl rfl guard_none (look_tmp rfl) (look_tmp rfl) (fun _ => rfl) (fun _ => rfl) ?_
      refine o_end ?_
      refine den_cond (look_tmp rfl) ?_ ?_
      · refine den_skip ?_
        refine den_seq ?_
        refine den_block ?_
        refine den_region rfl ?_
        refine o_move rfl rfl guard_none (look_tmp rfl) (fun _ => rfl) ?_
        refine o_sadd rfl rfl (look_tmp rfl) (look_str (l := [59, 32]) rfl (by decide)) rfl rfl (fun z13 => ?_)
        refine o_faddr field25_1 type23 (by decide) rfl rfl guard_none (look_tmp rfl) (fun _ => rfl) ?_
        refine o_oloadi 2 rfl type23 T_record_Record_foc1 rfl guard_none (look_tmp rfl) (fun _ => rfl) ?_
        refine o_move rfl rfl guard_none (look_tmp rfl) (fun _ => rfl) ?_
        refine o_iaddr Tryd.underlying23 type27 rfl rfl (look_tmp rfl) (look_tmp rfl) rfl rfl (fun z14 => ?_)
        refine o_load type27 rfl rfl guard_none (look_tmp rfl) (fun _ => rfl) ?_
        refine o_call rfl rfl rfl callable7 (looks_cons (look_tmp rfl) (fun _ => rfl) (looks_nil)) (law37_verdict_ok _) (fun z15 => ?_)
        refine o_sadd rfl rfl (look_tmp rfl) (look_tmp rfl) rfl rfl (fun z16 => ?_)
        refine o_assign rfl rfl guard_none (look_tmp rfl) (fun _ => rfl) ?_
        refine o_end ?_
        refine den_blkend ?_
        refine den_region rfl ?_
        refine o_move rfl rfl guard_none (look_tmp rfl) (fun _ => rfl) ?_
        refine o_add rfl rfl guard_none (look_tmp rfl) (look_int rfl) (fun _ => rfl) (fun _ => rfl) ?_
        refine o_assign rfl rfl guard_none (look_tmp rfl) (fun _ => rfl) ?_
        refine o_end ?_
        refine den_next ((sub_env (sube_cons rfl (sube_cons rfl (sube_cons rfl (sube_cons rfl (sube_nil)))))))
      · refine den_code_exit ?_
        refine dene_out rfl ?_
        refine dene_loop (by simp) ?_
        refine dene_to rfl ?_
        refine den_end ((sub_env (sube_cons rfl (sube_cons rfl (sube_cons rfl (sube_nil))))))
    refine den_seq ?_
    refine den_open (fun z7 h_z7 => ?_)
    refine den_open (fun z9 h_z9 => ?_)
    refine den_open (fun z10 h_z10 => ?_)
    refine den_draw [(28, ⟨T_api_Verdict_rep, v_1, true⟩), (29, ⟨Rep.str, z7, true⟩), (30, ⟨T_api_Verdict_rep, v_1, true⟩), (31, ⟨Rep.str, z9, true⟩), (32, ⟨Rep.bool, z7 == z9, true⟩), (33, ⟨Rep.bool, z7 == z9, true⟩), (34, ⟨T_record_Record_rep, r_0, (true && ((z7 == z9) == true))⟩), (35, ⟨Rep.str, z10, (true && ((z7 == z9) == true))⟩), (36, ⟨Rep.str, z6, (true && ((z7 == z9) == true))⟩), (37, ⟨Rep.bool, z10 == z6, (true && ((z7 == z9) == true))⟩), (38, ⟨Rep.bool, cond (z7 == z9) (z10 == z6) false, true⟩), (4, ⟨Rep.bool, cond (z7 == z9) (z10 == z6) false, true⟩)] mixed rfl rfl ⟨?_, ?_, ?_, ?_, ?_, ?_, ?_, ?_, ?_, ?_, ?_, ?_, trivial⟩ ?_
    · intro S hc hk hp
      refine o_oloadi 1 rfl type27 foc_self rfl guard_none (look_o rfl rfl) (fun _ => rfl) ?_
      exact d_end rfl rfl rfl
    · intro S hc hk hp
      refine o_from (bind_eqO h_z7) ?_
      refine o_weak (H' := [] ++ ([.obj false 0 0 (gfact 0 (Rep.arr 6 (Rep.str)) glob0) ()] ++ [.obj true z2 0 (.dat T_api_Verdict_rep) v_1, .obj true z1 0 (.dat T_record_Record_rep) r_0])) (sub_pick [0, 1, 2] rfl rfl) ?_
      refine o_callU rfl rfl rfl rfl rfl callable8 (looks_cons (look_d rfl rfl (pr hp 0 rfl rfl)) (fun _ => rfl) (looks_nil)) (.cons .nil) (outline_Verdict_ok v_1) (fun _ _ => wr_n) (fun _ => o_eqOH ?_)
      refine o_weak (H' := [.obj false 0 0 (gfact 0 (Rep.arr 6 (Rep.str)) glob0) (), .obj true z2 0 (.dat T_api_Verdict_rep) v_1, .obj true z1 0 (.dat T_record_Record_rep) r_0]) (sub_pick [0, 1, 2] rfl rfl) ?_
      exact d_end rfl rfl rfl
    · intro S hc hk hp
      refine o_oloadi 1 rfl type27 foc_self rfl guard_none (look_o rfl rfl) (fun _ => rfl) ?_
      exact d_end rfl rfl rfl
    · intro S hc hk hp
      refine o_from (bind_eqO h_z9) ?_
      refine o_call rfl rfl rfl callable7 (looks_cons (look_d rfl rfl (pr hp 0 rfl rfl)) (fun _ => rfl) (looks_nil)) (law37_verdict_ok _) (o_eqO ?_)
      exact d_end rfl rfl rfl
    · intro S hc hk hp
      refine o_seql rfl rfl guard_none (look_d rfl rfl (pr hp 0 rfl rfl)) (look_d rfl rfl (pr hp 1 rfl rfl)) (fun _ => rfl) (fun _ => rfl) ?_
      exact d_end rfl rfl rfl
    · intro S hc hk hp
      refine o_move rfl rfl guard_none (look_d rfl rfl (pr hp 0 rfl rfl)) (fun _ => rfl) ?_
      exact d_end rfl rfl rfl
    · intro S hc hk hp
      refine o_oloadi 2 rfl type25 foc_self rfl (guard_d rfl rfl rfl rfl (pr hp 0 rfl rfl)) (look_o rfl rfl) (fun _ => rfl) ?_
      exact d_end rfl rfl rfl
    · intro S hc hk hp
      refine o_from (bind_eqO h_z10) ?_
      refine o_weak (H' := [] ++ ([.obj false 0 0 (gfact 0 (Rep.arr 6 (Rep.str)) glob0) ()] ++ [.obj true z2 0 (.dat T_api_Verdict_rep) v_1, .obj true z1 0 (.dat T_record_Record_rep) r_0])) (sub_pick [0, 1, 2] rfl rfl) ?_
      refine o_callX (its := []) ([] : Bytes) () rfl rfl rfl rfl (guard_d rfl rfl rfl rfl (pr hp 1 rfl rfl)) callable9 (looks_cons (look_d rfl rfl (pr hp 0 rfl rfl)) (fun h => h) (looks_nil)) (.cons .nil) (outline_Record_ok r_0) (fun _ _ => wr_n) ?_ (fun _ => o_eqOH ?_)
      · exact fun _ => rfl
      refine o_weak (H' := [.obj false 0 0 (gfact 0 (Rep.arr 6 (Rep.str)) glob0) (), .obj true z2 0 (.dat T_api_Verdict_rep) v_1, .obj true z1 0 (.dat T_record_Record_rep) r_0]) (sub_pick [0, 1, 2] rfl rfl) ?_
      exact d_end rfl rfl rfl
    · intro S hc hk hp
      refine o_move rfl rfl (guard_d rfl rfl rfl rfl (pr hp 0 rfl rfl)) (look_o rfl rfl) (fun _ => rfl) ?_
      exact d_end rfl rfl rfl
    · intro S hc hk hp
      refine o_seql rfl rfl (guard_d rfl rfl rfl rfl (pr hp 2 rfl rfl)) (look_d rfl rfl (pr hp 0 rfl rfl)) (look_d rfl rfl (pr hp 1 rfl rfl)) (fun h => h) (fun h => h) ?_
      exact d_end rfl rfl rfl
    · intro S hc hk hp
      refine o_pick rfl rfl guard_none (look_d rfl rfl (pr hp 0 rfl rfl)) (look_d rfl rfl (pr hp 1 rfl rfl)) look_bool (fun _ => rfl) (fun h1 h2 => pick_t ((fun _ => rfl) h1) h2) (fun _ _ => rfl) ?_
      exact d_end rfl rfl rfl
    · intro S hc hk hp
      refine o_assign rfl rfl guard_none (look_d rfl rfl (pr hp 0 rfl rfl)) (fun _ => rfl) ?_
      exact d_end rfl rfl rfl
    refine den_code_ret ?_
    exact dene_resI () (res1 rfl (rv_tmp rfl)) (fun _ _ _ k => ato_pick [] rfl rfl k)

end Go.Proofs.YtcmkbaoeacingaaDoor.M
