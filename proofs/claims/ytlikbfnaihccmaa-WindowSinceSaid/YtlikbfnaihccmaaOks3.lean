/- That the Go functions answer as the plain ones: written by gen2.py. -/
import Derived.Test.YtlikbfnaihccmaaOks2
namespace Go.Proofs.Ytlikbfnaihccmaa.M
open Go.Eng Go
set_option linter.unusedVariables false

theorem window_spanOf_ok  (lo_0 : Int) (hi_1 : Int) : FunOkI Try.prog 52 [⟨Rep.int .i64, lo_0, true⟩, ⟨Rep.int .i64, hi_1, true⟩] [] (window_spanOf lo_0 hi_1) (Rep.dep (fun a : Value => (T_window_span_repo a)) 7 aggv true (fun _ => rfl) (fun _ => rfl) (fun _ => rfl)) (fun (α : Value) (y : T_window_span) => (α, y)) (fun α y => [.vec α (T_deque_Cell_rep) y.was.cells]) := by
  refine fun_okI Try.func52 rfl Try.ntmps52 rfl (all_cons rfl (all_cons rfl all_nil)) (fun w0 ok0 M => ?_)
  refine den_seq ?_
  refine den_region rfl ?_
  refine o_weak (sub_nilvec (R := T_deque_Cell_rep) rfl) ?_
  refine o_alloc zeroo77 rfl rfl (fun z1 => ?_)
  refine o_end ?_
  refine den_seq ?_
  refine den_region rfl ?_
  refine o_move rfl rfl guard_none (look_tmp rfl) (fun _ => rfl) ?_
  refine o_max2 rfl rfl guard_none (look_tmp rfl) (look_int rfl) (fun _ => rfl) (fun _ => rfl) ?_
  refine o_assign rfl rfl guard_none (look_tmp rfl) (fun _ => rfl) ?_
  refine o_end ?_
  refine den_seq ?_
  refine den_seq ?_
  refine den_region rfl ?_
  refine o_move rfl rfl guard_none (look_tmp rfl) (fun _ => rfl) ?_
  refine o_neq rfl rfl guard_none (look_tmp rfl) (look_int rfl) (fun _ => rfl) (fun _ => rfl) ?_
  refine o_end ?_
  refine den_cond (look_tmp rfl) ?_ ?_
  · refine den_region rfl ?_
    refine o_move rfl rfl guard_none (look_tmp rfl) (fun _ => rfl) ?_
    refine o_move rfl rfl guard_none (look_tmp rfl) (fun _ => rfl) ?_
    refine o_max2 rfl rfl guard_none (look_tmp rfl) (look_tmp rfl) (fun _ => rfl) (fun _ => rfl) ?_
    refine o_assign rfl rfl guard_none (look_tmp rfl) (fun _ => rfl) ?_
    refine o_end ?_
    refine den_seq ?_
    refine den_region rfl ?_
    refine o_move rfl rfl guard_none (look_tmp rfl) (fun _ => rfl) ?_
    refine o_move rfl rfl guard_none (look_tmp rfl) (fun _ => rfl) ?_
    refine o_weak (sub_nilvec (R := T_deque_Cell_rep) rfl) ?_
    refine o_build (R := T_window_span_repo0 (Value.slice none 0 0)) (f := T_window_span_tupo) (y := (⟨max lo_0 0, max hi_1 (max lo_0 0), 0, true, T_deque_Deque_zero⟩ : T_window_span)) shape77 rfl rfl rfl rfl guard_none (bld_part rfl rfl (look_tmp rfl) (fun _ => rfl) (bld_part rfl rfl (look_tmp rfl) (fun _ => rfl) (bld_zero (z_int rfl) (bld_part rfl rfl look_bool (fun _ => rfl) (bld_zero (z_iso (z_cons (z_isv rfl) (z_cons (z_int rfl) (z_cons (z_int rfl) z_nil0))) rfl) (bld_nil)))))) ?_
    refine o_weak (H' := [.obj true z1 0 (.dat (T_window_span_repo (Value.slice none 0 0))) T_window_span_zero, .vec (Value.slice none 0 0) (T_deque_Cell_rep) ([] : List T_deque_Cell), .vec (Value.slice none 0 0) (T_deque_Cell_rep) T_window_span_zero.was.cells]) (sub_pick [1, 0, 2] rfl rfl) ?_
    refine o_wstore (typeo77 (Value.slice none 0 0)) (foc2_self rfl (fun h => h)) (look_tmp rfl) rfl (look_tmp rfl) rfl ?_
    refine o_end ?_
    refine den_code_ret ?_
    refine dene_weak (H' := [.obj true z1 0 (.dat (T_window_span_repo (Value.slice none 0 0))) (⟨max lo_0 0, max hi_1 (max lo_0 0), 0, true, T_deque_Deque_zero⟩ : T_window_span), .vec (Value.slice none 0 0) (T_deque_Cell_rep) ([] : List T_deque_Cell), .vec (Value.slice none 0 0) (T_deque_Cell_rep) T_window_span_zero.was.cells]) (sub_pick [0, 1, 2] rfl rfl) ?_
    refine dene_weak (sub_redat ({ (⟨max lo_0 0, max hi_1 (max lo_0 0), 0, true, T_deque_Deque_zero⟩ : T_window_span) with was := { T_deque_Deque_zero with cells := ([] : List T_deque_Cell) } }) (fun _ _ _ h => h)) ?_
    exact dene_resI (Value.slice none 0 0) (res1 rfl (rv_dep (rv_cell 0 (typeo77 (Value.slice none 0 0)) rfl rfl) (fun _ _ _ h => h))) (fun _ _ _ k => ato_pick [1] rfl rfl k)
  · refine den_skip ?_
    refine den_seq ?_
    refine den_region rfl ?_
    refine o_move rfl rfl guard_none (look_tmp rfl) (fun _ => rfl) ?_
    refine o_move rfl rfl guard_none (look_tmp rfl) (fun _ => rfl) ?_
    refine o_weak (sub_nilvec (R := T_deque_Cell_rep) rfl) ?_
    refine o_build (R := T_window_span_repo0 (Value.slice none 0 0)) (f := T_window_span_tupo) (y := (⟨max lo_0 0, hi_1, 0, true, T_deque_Deque_zero⟩ : T_window_span)) shape77 rfl rfl rfl rfl guard_none (bld_part rfl rfl (look_tmp rfl) (fun _ => rfl) (bld_part rfl rfl (look_tmp rfl) (fun _ => rfl) (bld_zero (z_int rfl) (bld_part rfl rfl look_bool (fun _ => rfl) (bld_zero (z_iso (z_cons (z_isv rfl) (z_cons (z_int rfl) (z_cons (z_int rfl) z_nil0))) rfl) (bld_nil)))))) ?_
    refine o_weak (H' := [.obj true z1 0 (.dat (T_window_span_repo (Value.slice none 0 0))) T_window_span_zero, .vec (Value.slice none 0 0) (T_deque_Cell_rep) ([] : List T_deque_Cell), .vec (Value.slice none 0 0) (T_deque_Cell_rep) T_window_span_zero.was.cells]) (sub_pick [1, 0, 2] rfl rfl) ?_
    refine o_wstore (typeo77 (Value.slice none 0 0)) (foc2_self rfl (fun h => h)) (look_tmp rfl) rfl (look_tmp rfl) rfl ?_
    refine o_end ?_
    refine den_code_ret ?_
    refine dene_weak (H' := [.obj true z1 0 (.dat (T_window_span_repo (Value.slice none 0 0))) (⟨max lo_0 0, hi_1, 0, true, T_deque_Deque_zero⟩ : T_window_span), .vec (Value.slice none 0 0) (T_deque_Cell_rep) ([] : List T_deque_Cell), .vec (Value.slice none 0 0) (T_deque_Cell_rep) T_window_span_zero.was.cells]) (sub_pick [0, 1, 2] rfl rfl) ?_
    refine dene_weak (sub_redat ({ (⟨max lo_0 0, hi_1, 0, true, T_deque_Deque_zero⟩ : T_window_span) with was := { T_deque_Deque_zero with cells := ([] : List T_deque_Cell) } }) (fun _ _ _ h => h)) ?_
    exact dene_resI (Value.slice none 0 0) (res1 rfl (rv_dep (rv_cell 0 (typeo77 (Value.slice none 0 0)) rfl rfl) (fun _ _ _ h => h))) (fun _ _ _ k => ato_pick [1] rfl rfl k)

theorem window_NewOnce_ok  (lo_0 : Int) (hi_1 : Int) : FunOkI Try.prog 32 [⟨Rep.int .i64, lo_0, true⟩, ⟨Rep.int .i64, hi_1, true⟩] [] (window_NewOnce lo_0 hi_1) (Rep.addr) (fun (α : ((Nat × Nat) × Value)) (y : T_window_Once) => α.1) (fun α y => [.vec α.2 (T_deque_Cell_rep) y.span.was.cells, .obj true α.1.1 α.1.2 (.dat (T_window_Once_repo α.2)) y]) := by
  refine fun_okI Try.func32 rfl Try.ntmps32 rfl (all_cons rfl (all_cons rfl all_nil)) (fun w0 ok0 M => ?_)
  refine den_seq ?_
  refine den_region rfl ?_
  refine o_assign rfl rfl guard_none look_nilp (fun _ => rfl) ?_
  refine o_end ?_
  refine den_seq ?_
  refine den_region rfl ?_
  refine o_move rfl rfl guard_none (look_tmp rfl) (fun _ => rfl) ?_
  refine o_move rfl rfl guard_none (look_tmp rfl) (fun _ => rfl) ?_
  refine o_weak (H' := [] ++ ([] ++ [])) (sub_pick [] rfl rfl) ?_
  refine o_callU rfl rfl rfl rfl rfl callable52 (looks_cons (look_tmp rfl) (fun _ => rfl) (looks_cons (look_tmp rfl) (fun _ => rfl) (looks_nil))) .nil (window_spanOf_ok lo_0 hi_1) (fun _ _ => (wr_v wr_n)) (fun z2α z1 => ?_)
  refine o_asdep ?_
  refine o_weak (H' := [.vec z2α (T_deque_Cell_rep) z1.was.cells]) (sub_pick [0] rfl rfl) ?_
  refine o_build (R := T_window_Once_repo0 z2α) (f := T_window_Once_tupo) (y := (⟨z1⟩ : T_window_Once)) shape79 rfl rfl rfl rfl guard_none (bld_part rfl rfl (look_tmp rfl) (fun _ => rfl) (bld_nil)) ?_
  refine o_box rfl rfl (look_tmp rfl) rfl (fun z4 => ?_)
  refine o_assign rfl rfl guard_none (look_tmp rfl) (fun _ => rfl) ?_
  refine o_end ?_
  refine den_code_ret ?_
  exact dene_resI ((z4, 0), z2α) (res1 rfl (rv_tmp rfl)) (fun _ _ _ k => ato_pick [1, 0] rfl rfl k)

theorem window_NewSince_ok  (lo_0 : Int) (hi_1 : Int) : FunOkI Try.prog 36 [⟨Rep.int .i64, lo_0, true⟩, ⟨Rep.int .i64, hi_1, true⟩] [] (window_NewSince lo_0 hi_1) (Rep.addr) (fun (α : ((Nat × Nat) × Value)) (y : T_window_Since) => α.1) (fun α y => [.vec α.2 (T_deque_Cell_rep) y.span.was.cells, .obj true α.1.1 α.1.2 (.dat (T_window_Since_repo α.2)) y]) := by
  refine fun_okI Try.func36 rfl Try.ntmps36 rfl (all_cons rfl (all_cons rfl all_nil)) (fun w0 ok0 M => ?_)
  refine den_seq ?_
  refine den_region rfl ?_
  refine o_assign rfl rfl guard_none look_nilp (fun _ => rfl) ?_
  refine o_end ?_
  refine den_seq ?_
  refine den_region rfl ?_
  refine o_move rfl rfl guard_none (look_tmp rfl) (fun _ => rfl) ?_
  refine o_move rfl rfl guard_none (look_tmp rfl) (fun _ => rfl) ?_
  refine o_weak (H' := [] ++ ([] ++ [])) (sub_pick [] rfl rfl) ?_
  refine o_callU rfl rfl rfl rfl rfl callable52 (looks_cons (look_tmp rfl) (fun _ => rfl) (looks_cons (look_tmp rfl) (fun _ => rfl) (looks_nil))) .nil (window_spanOf_ok lo_0 hi_1) (fun _ _ => (wr_v wr_n)) (fun z2α z1 => ?_)
  refine o_asdep ?_
  refine o_weak (H' := [.vec z2α (T_deque_Cell_rep) z1.was.cells]) (sub_pick [0] rfl rfl) ?_
  refine o_build (R := T_window_Since_repo0 z2α) (f := T_window_Since_tupo) (y := (⟨z1⟩ : T_window_Since)) shape80 rfl rfl rfl rfl guard_none (bld_part rfl rfl (look_tmp rfl) (fun _ => rfl) (bld_nil)) ?_
  refine o_box rfl rfl (look_tmp rfl) rfl (fun z4 => ?_)
  refine o_assign rfl rfl guard_none (look_tmp rfl) (fun _ => rfl) ?_
  refine o_end ?_
  refine den_code_ret ?_
  exact dene_resI ((z4, 0), z2α) (res1 rfl (rv_tmp rfl)) (fun _ _ _ k => ato_pick [1, 0] rfl rfl k)

theorem window_span_moment_ok (blk0 : Nat) (off0 : Nat) (val0_0 : Value) (p_0 : T_window_span) (a_1 : Int) : FunOkI Try.prog 54 [⟨.addr, (blk0, off0), true⟩, ⟨Rep.int .i64, a_1, true⟩] [.vec val0_0 (T_deque_Cell_rep) p_0.was.cells, .obj true blk0 off0 (.dat (T_window_span_repo val0_0)) p_0] (window_span_moment p_0 a_1) (Rep.unit) (fun (α : Value) (y : T_window_span) => ()) (fun α y => [.vec α (T_deque_Cell_rep) y.was.cells, .obj true blk0 off0 (.dat (T_window_span_repo α)) y]) := by
  refine fun_okI Try.func54 rfl Try.ntmps54 rfl (all_cons rfl (all_cons rfl all_nil)) (fun w0 ok0 M => ?_)
  refine den_seq ?_
  refine den_region rfl ?_
  refine o_move rfl rfl guard_none (look_tmp rfl) (fun _ => rfl) ?_
  refine o_move rfl rfl guard_none (look_tmp rfl) (fun _ => rfl) ?_
  refine o_nilc rfl rfl guard_none (look_tmp rfl) (fun _ => rfl) ?_
  refine o_faddr field77_2 type2 (by decide) rfl rfl guard_none (look_tmp rfl) (fun _ => rfl) ?_
  refine o_oloadi 1 rfl type2 (T_window_span_foco2 val0_0) rfl guard_none (look_tmp rfl) (fun _ => rfl) ?_
  refine o_move rfl rfl guard_none (look_tmp rfl) (fun _ => rfl) ?_
  refine o_max2 rfl rfl guard_none (look_tmp rfl) (look_tmp rfl) (fun _ => rfl) (fun _ => rfl) ?_
  refine o_nilc rfl rfl guard_none (look_tmp rfl) (fun _ => rfl) ?_
  refine o_faddr field77_2 type2 (by decide) rfl rfl guard_none (look_tmp rfl) (fun _ => rfl) ?_
  refine o_weak (H' := [.obj true blk0 off0 (.dat (T_window_span_repo val0_0)) p_0, .vec val0_0 (T_deque_Cell_rep) p_0.was.cells]) (sub_pick [1, 0] rfl rfl) ?_
  refine o_ostore type2 (T_window_span_foco2 val0_0) guard_none (look_tmp rfl) (fun _ => rfl) (look_tmp rfl) (fun _ => rfl) ?_
  refine o_end ?_
  refine den_seq ?_
  refine den_region rfl ?_
  refine o_move rfl rfl guard_none (look_tmp rfl) (fun _ => rfl) ?_
  refine o_nilc rfl rfl guard_none (look_tmp rfl) (fun _ => rfl) ?_
  refine o_faddr field77_1 type2 (by decide) rfl rfl guard_none (look_tmp rfl) (fun _ => rfl) ?_
  refine o_oloadi 0 rfl type2 (T_window_span_foco1 val0_0) rfl guard_none (look_tmp rfl) (fun _ => rfl) ?_
  refine o_neq rfl rfl guard_none (look_tmp rfl) (look_int rfl) (fun _ => rfl) (fun _ => rfl) ?_
  refine o_end ?_
  refine den_cond (look_tmp rfl) ?_ ?_
  · refine den_open (fun z2 h_z2 => ?_)
    have hB : ∀ (z1α : Value) (S : Nat → Bool) (b12 : Bool), S 12 = b12 → (([(cond (S 12) (.obj true blk0 off0 (.dat (T_window_span_repo z1α)) ({ ({ p_0 with last := max p_0.last a_1 }) with was := z2.2 })) (.obj true blk0 off0 (.dat (T_window_span_repo val0_0)) ({ p_0 with last := max p_0.last a_1 }))), (cond (S 12) (.gone) (.vec val0_0 (T_deque_Cell_rep) p_0.was.cells)), (cond (S 12) (.vec (z1α) (T_deque_Cell_rep) z2.2.cells) (.gone))] : List Go.Eng.Item)) = ([(cond b12 (.obj true blk0 off0 (.dat (T_window_span_repo z1α)) ({ ({ p_0 with last := max p_0.last a_1 }) with was := z2.2 })) (.obj true blk0 off0 (.dat (T_window_span_repo val0_0)) ({ p_0 with last := max p_0.last a_1 }))), (cond b12 (.gone) (.vec val0_0 (T_deque_Cell_rep) p_0.was.cells)), (cond b12 (.vec (z1α) (T_deque_Cell_rep) z2.2.cells) (.gone))] : List Go.Eng.Item) := fun z1α S b12 h12 => by subst h12; rfl
    refine den_weak sub_gone ?_
    refine den_weak (sub_pick (H' := [.obj true blk0 off0 (.dat (T_window_span_repo val0_0)) ({ p_0 with last := max p_0.last a_1 }), .vec val0_0 (T_deque_Cell_rep) p_0.was.cells, .gone]) [1, 2, 0] rfl rfl) ?_
    refine den_drawA (A := Value) (H' := fun z1α => [.obj true blk0 off0 (.dat (T_window_span_repo z1α)) ({ ({ p_0 with last := max p_0.last a_1 }) with was := z2.2 }), .gone, .vec (z1α) (T_deque_Cell_rep) z2.2.cells]) (fun z1α => [(18, ⟨Rep.addr, (blk0, off0), true⟩), (19, ⟨Rep.addr, (blk0, off0), true⟩), (20, ⟨Rep.addr, (blk0, off0 + 4), true⟩), (21, ⟨Rep.addr, (blk0, off0), true⟩), (22, ⟨Rep.addr, (blk0, off0), true⟩), (23, ⟨Rep.addr, (blk0, off0 + 2), true⟩), (24, ⟨Rep.int .i64, max p_0.last a_1, true⟩), (25, ⟨Rep.addr, (blk0, off0), true⟩), (26, ⟨Rep.addr, (blk0, off0), true⟩), (27, ⟨Rep.addr, (blk0, off0 + 1), true⟩), (28, ⟨Rep.int .i64, p_0.hi, true⟩), (29, ⟨Rep.int .i64, IntKind.i64.wrap ((max p_0.last a_1) - p_0.hi), true⟩), (30, ⟨Rep.int .i64, z2.1, true⟩)]) (fun z1α S => [(cond (S 12) (.obj true blk0 off0 (.dat (T_window_span_repo z1α)) ({ ({ p_0 with last := max p_0.last a_1 }) with was := z2.2 })) (.obj true blk0 off0 (.dat (T_window_span_repo val0_0)) ({ p_0 with last := max p_0.last a_1 }))), (cond (S 12) (.gone) (.vec val0_0 (T_deque_Cell_rep) p_0.was.cells)), (cond (S 12) (.vec (z1α) (T_deque_Cell_rep) z2.2.cells) (.gone))]) (Value.slice none 0 0) mixed (fun _ => rfl) rfl rfl (fun z1α S hS => hB z1α S true (hS 12 (by decide))) ⟨?_, ?_, ?_, ?_, ?_, ?_, ?_, ?_, ?_, ?_, ?_, ?_, ?_, trivial⟩ (fun z1α => ?_)
    · intro z1α S hc hk hp
      have e12 : S 12 = false := (not_yet (j := 12) (q := 0) hc (not_yet (j := 2) (q := 0) hc (not_yet (j := 1) (q := 0) hc hk rfl rfl rfl rfl) rfl rfl rfl rfl) rfl rfl rfl rfl)
      refine eq_H (H' := [.obj true blk0 off0 (.dat (T_window_span_repo val0_0)) ({ p_0 with last := max p_0.last a_1 }), .vec val0_0 (T_deque_Cell_rep) p_0.was.cells, .gone]) (by first | exact hB z1α S false e12 | (have q := hB z1α S false e12; simp only [cond_true, cond_false] at q; exact q)) ?_
      refine o_move rfl rfl guard_none (look_o rfl rfl) (fun _ => rfl) ?_
      apply h_endA (α := z1α) z1α
      · exact (.same (.same (.same (.same (.same (.same (.same (.same (.same (.same (.same (.same (.same .nil)))))))))))))
      · exact rfl
      · exact rfl
      · exact rfl
      · exact hB z1α (fun k => S k || Nat.beq k 0) false (or_f e12 rfl)
    · intro z1α S hc hk hp
      have e12 : S 12 = false := (not_yet (j := 12) (q := 0) hc (not_yet (j := 2) (q := 0) hc hk rfl rfl rfl rfl) rfl rfl rfl rfl)
      refine eq_H (H' := [.obj true blk0 off0 (.dat (T_window_span_repo val0_0)) ({ p_0 with last := max p_0.last a_1 }), .vec val0_0 (T_deque_Cell_rep) p_0.was.cells, .gone]) (by first | exact hB z1α S false e12 | (have q := hB z1α S false e12; simp only [cond_true, cond_false] at q; exact q)) ?_
      refine o_nilc rfl rfl guard_none (look_d rfl rfl (pr hp 0 rfl rfl)) (fun _ => rfl) ?_
      apply h_endA (α := z1α) z1α
      · exact (.same (.same (.same (.same (.same (.same (.same (.same (.same (.same (.same (.same (.same .nil)))))))))))))
      · exact rfl
      · exact rfl
      · exact rfl
      · exact hB z1α (fun k => S k || Nat.beq k 1) false (or_f e12 rfl)
    · intro z1α S hc hk hp
      have e12 : S 12 = false := (not_yet (j := 12) (q := 0) hc hk rfl rfl rfl rfl)
      refine eq_H (H' := [.obj true blk0 off0 (.dat (T_window_span_repo val0_0)) ({ p_0 with last := max p_0.last a_1 }), .vec val0_0 (T_deque_Cell_rep) p_0.was.cells, .gone]) (by first | exact hB z1α S false e12 | (have q := hB z1α S false e12; simp only [cond_true, cond_false] at q; exact q)) ?_
      refine o_faddr field77_4 type29 (by decide) rfl rfl guard_none (look_d rfl rfl (pr hp 0 rfl rfl)) (fun _ => rfl) ?_
      apply h_endA (α := z1α) z1α
      · exact (.same (.same (.same (.same (.same (.same (.same (.same (.same (.same (.same (.same (.same .nil)))))))))))))
      · exact rfl
      · exact rfl
      · exact rfl
      · exact hB z1α (fun k => S k || Nat.beq k 2) false (or_f e12 rfl)
    · intro z1α S hc hk hp
      have e12 : S 12 = false := (not_yet (j := 12) (q := 1) hc (not_yet (j := 11) (q := 0) hc (not_yet (j := 6) (q := 0) hc (not_yet (j := 5) (q := 0) hc (not_yet (j := 4) (q := 0) hc hk rfl rfl rfl rfl) rfl rfl rfl rfl) rfl rfl rfl rfl) rfl rfl rfl rfl) rfl rfl rfl rfl)
      refine eq_H (H' := [.obj true blk0 off0 (.dat (T_window_span_repo val0_0)) ({ p_0 with last := max p_0.last a_1 }), .vec val0_0 (T_deque_Cell_rep) p_0.was.cells, .gone]) (by first | exact hB z1α S false e12 | (have q := hB z1α S false e12; simp only [cond_true, cond_false] at q; exact q)) ?_
      refine o_move rfl rfl guard_none (look_o rfl rfl) (fun _ => rfl) ?_
      apply h_endA (α := z1α) z1α
      · exact (.same (.same (.same (.same (.same (.same (.same (.same (.same (.same (.same (.same (.same .nil)))))))))))))
      · exact rfl
      · exact rfl
      · exact rfl
      · exact hB z1α (fun k => S k || Nat.beq k 3) false (or_f e12 rfl)
    · intro z1α S hc hk hp
      have e12 : S 12 = false := (not_yet (j := 12) (q := 1) hc (not_yet (j := 11) (q := 0) hc (not_yet (j := 6) (q := 0) hc (not_yet (j := 5) (q := 0) hc hk rfl rfl rfl rfl) rfl rfl rfl rfl) rfl rfl rfl rfl) rfl rfl rfl rfl)
      refine eq_H (H' := [.obj true blk0 off0 (.dat (T_window_span_repo val0_0)) ({ p_0 with last := max p_0.last a_1 }), .vec val0_0 (T_deque_Cell_rep) p_0.was.cells, .gone]) (by first | exact hB z1α S false e12 | (have q := hB z1α S false e12; simp only [cond_true, cond_false] at q; exact q)) ?_
      refine o_nilc rfl rfl guard_none (look_d rfl rfl (pr hp 0 rfl rfl)) (fun _ => rfl) ?_
      apply h_endA (α := z1α) z1α
      · exact (.same (.same (.same (.same (.same (.same (.same (.same (.same (.same (.same (.same (.same .nil)))))))))))))
      · exact rfl
      · exact rfl
      · exact rfl
      · exact hB z1α (fun k => S k || Nat.beq k 4) false (or_f e12 rfl)
    · intro z1α S hc hk hp
      have e12 : S 12 = false := (not_yet (j := 12) (q := 1) hc (not_yet (j := 11) (q := 0) hc (not_yet (j := 6) (q := 0) hc hk rfl rfl rfl rfl) rfl rfl rfl rfl) rfl rfl rfl rfl)
      refine eq_H (H' := [.obj true blk0 off0 (.dat (T_window_span_repo val0_0)) ({ p_0 with last := max p_0.last a_1 }), .vec val0_0 (T_deque_Cell_rep) p_0.was.cells, .gone]) (by first | exact hB z1α S false e12 | (have q := hB z1α S false e12; simp only [cond_true, cond_false] at q; exact q)) ?_
      refine o_faddr field77_2 type2 (by decide) rfl rfl guard_none (look_d rfl rfl (pr hp 0 rfl rfl)) (fun _ => rfl) ?_
      apply h_endA (α := z1α) z1α
      · exact (.same (.same (.same (.same (.same (.same (.same (.same (.same (.same (.same (.same (.same .nil)))))))))))))
      · exact rfl
      · exact rfl
      · exact rfl
      · exact hB z1α (fun k => S k || Nat.beq k 5) false (or_f e12 rfl)
    · intro z1α S hc hk hp
      have e12 : S 12 = false := (not_yet (j := 12) (q := 1) hc (not_yet (j := 11) (q := 0) hc hk rfl rfl rfl rfl) rfl rfl rfl rfl)
      refine eq_H (H' := [.obj true blk0 off0 (.dat (T_window_span_repo val0_0)) ({ p_0 with last := max p_0.last a_1 }), .vec val0_0 (T_deque_Cell_rep) p_0.was.cells, .gone]) (by first | exact hB z1α S false e12 | (have q := hB z1α S false e12; simp only [cond_true, cond_false] at q; exact q)) ?_
      refine o_oloadi 0 rfl type2 (T_window_span_foco2 val0_0) rfl guard_none (look_d rfl rfl (pr hp 0 rfl rfl)) (fun _ => rfl) ?_
      apply h_endA (α := z1α) z1α
      · exact (.same (.same (.same (.same (.same (.same (.same (.same (.same (.same (.same (.same (.same .nil)))))))))))))
      · exact rfl
      · exact rfl
      · exact rfl
      · exact hB z1α (fun k => S k || Nat.beq k 6) false (or_f e12 rfl)
    · intro z1α S hc hk hp
      have e12 : S 12 = false := (not_yet (j := 12) (q := 1) hc (not_yet (j := 11) (q := 1) hc (not_yet (j := 10) (q := 0) hc (not_yet (j := 9) (q := 0) hc (not_yet (j := 8) (q := 0) hc hk rfl rfl rfl rfl) rfl rfl rfl rfl) rfl rfl rfl rfl) rfl rfl rfl rfl) rfl rfl rfl rfl)
      refine eq_H (H' := [.obj true blk0 off0 (.dat (T_window_span_repo val0_0)) ({ p_0 with last := max p_0.last a_1 }), .vec val0_0 (T_deque_Cell_rep) p_0.was.cells, .gone]) (by first | exact hB z1α S false e12 | (have q := hB z1α S false e12; simp only [cond_true, cond_false] at q; exact q)) ?_
      refine o_move rfl rfl guard_none (look_o rfl rfl) (fun _ => rfl) ?_
      apply h_endA (α := z1α) z1α
      · exact (.same (.same (.same (.same (.same (.same (.same (.same (.same (.same (.same (.same (.same .nil)))))))))))))
      · exact rfl
      · exact rfl
      · exact rfl
      · exact hB z1α (fun k => S k || Nat.beq k 7) false (or_f e12 rfl)
    · intro z1α S hc hk hp
      have e12 : S 12 = false := (not_yet (j := 12) (q := 1) hc (not_yet (j := 11) (q := 1) hc (not_yet (j := 10) (q := 0) hc (not_yet (j := 9) (q := 0) hc hk rfl rfl rfl rfl) rfl rfl rfl rfl) rfl rfl rfl rfl) rfl rfl rfl rfl)
      refine eq_H (H' := [.obj true blk0 off0 (.dat (T_window_span_repo val0_0)) ({ p_0 with last := max p_0.last a_1 }), .vec val0_0 (T_deque_Cell_rep) p_0.was.cells, .gone]) (by first | exact hB z1α S false e12 | (have q := hB z1α S false e12; simp only [cond_true, cond_false] at q; exact q)) ?_
      refine o_nilc rfl rfl guard_none (look_d rfl rfl (pr hp 0 rfl rfl)) (fun _ => rfl) ?_
      apply h_endA (α := z1α) z1α
      · exact (.same (.same (.same (.same (.same (.same (.same (.same (.same (.same (.same (.same (.same .nil)))))))))))))
      · exact rfl
      · exact rfl
      · exact rfl
      · exact hB z1α (fun k => S k || Nat.beq k 8) false (or_f e12 rfl)
    · intro z1α S hc hk hp
      have e12 : S 12 = false := (not_yet (j := 12) (q := 1) hc (not_yet (j := 11) (q := 1) hc (not_yet (j := 10) (q := 0) hc hk rfl rfl rfl rfl) rfl rfl rfl rfl) rfl rfl rfl rfl)
      refine eq_H (H' := [.obj true blk0 off0 (.dat (T_window_span_repo val0_0)) ({ p_0 with last := max p_0.last a_1 }), .vec val0_0 (T_deque_Cell_rep) p_0.was.cells, .gone]) (by first | exact hB z1α S false e12 | (have q := hB z1α S false e12; simp only [cond_true, cond_false] at q; exact q)) ?_
      refine o_faddr field77_1 type2 (by decide) rfl rfl guard_none (look_d rfl rfl (pr hp 0 rfl rfl)) (fun _ => rfl) ?_
      apply h_endA (α := z1α) z1α
      · exact (.same (.same (.same (.same (.same (.same (.same (.same (.same (.same (.same (.same (.same .nil)))))))))))))
      · exact rfl
      · exact rfl
      · exact rfl
      · exact hB z1α (fun k => S k || Nat.beq k 9) false (or_f e12 rfl)
    · intro z1α S hc hk hp
      have e12 : S 12 = false := (not_yet (j := 12) (q := 1) hc (not_yet (j := 11) (q := 1) hc hk rfl rfl rfl rfl) rfl rfl rfl rfl)
      refine eq_H (H' := [.obj true blk0 off0 (.dat (T_window_span_repo val0_0)) ({ p_0 with last := max p_0.last a_1 }), .vec val0_0 (T_deque_Cell_rep) p_0.was.cells, .gone]) (by first | exact hB z1α S false e12 | (have q := hB z1α S false e12; simp only [cond_true, cond_false] at q; exact q)) ?_
      refine o_oloadi 0 rfl type2 (T_window_span_foco1 val0_0) rfl guard_none (look_d rfl rfl (pr hp 0 rfl rfl)) (fun _ => rfl) ?_
      apply h_endA (α := z1α) z1α
      · exact (.same (.same (.same (.same (.same (.same (.same (.same (.same (.same (.same (.same (.same .nil)))))))))))))
      · exact rfl
      · exact rfl
      · exact rfl
      · exact hB z1α (fun k => S k || Nat.beq k 10) false (or_f e12 rfl)
    · intro z1α S hc hk hp
      have e12 : S 12 = false := (not_yet (j := 12) (q := 1) hc hk rfl rfl rfl rfl)
      refine eq_H (H' := [.obj true blk0 off0 (.dat (T_window_span_repo val0_0)) ({ p_0 with last := max p_0.last a_1 }), .vec val0_0 (T_deque_Cell_rep) p_0.was.cells, .gone]) (by first | exact hB z1α S false e12 | (have q := hB z1α S false e12; simp only [cond_true, cond_false] at q; exact q)) ?_
      refine o_sub rfl rfl guard_none (look_d rfl rfl (pr hp 0 rfl rfl)) (look_d rfl rfl (pr hp 1 rfl rfl)) (fun _ => rfl) (fun _ => rfl) ?_
      apply h_endA (α := z1α) z1α
      · exact (.same (.same (.same (.same (.same (.same (.same (.same (.same (.same (.same (.same (.same .nil)))))))))))))
      · exact rfl
      · exact rfl
      · exact rfl
      · exact hB z1α (fun k => S k || Nat.beq k 11) false (or_f e12 rfl)
    · intro z1α S hc hk hp
      refine eq_H (H' := [.obj true blk0 off0 (.dat (T_window_span_repo val0_0)) ({ p_0 with last := max p_0.last a_1 }), .vec val0_0 (T_deque_Cell_rep) p_0.was.cells, .gone]) (by first | exact hB z1α S false hk | (have q := hB z1α S false hk; simp only [cond_true, cond_false] at q; exact q)) ?_
      refine o_from (bind_eqO h_z2) ?_
      refine o_weak (sub_part (R' := (T_window_span_repo val0_0)) (S' := (T_deque_Deque_repo val0_0)) (T_window_span_focw4 val0_0 val0_0) rfl) ?_
      refine o_weak (H' := [.obj true blk0 (off0 + 4) (.dat (T_deque_Deque_repo val0_0)) p_0.was, .hole true blk0 off0 4 ((T_deque_Deque_repo val0_0)).size (T_window_span_repo val0_0) ({ p_0 with last := max p_0.last a_1 }), .vec val0_0 (T_deque_Cell_rep) p_0.was.cells, .gone]) (sub_pick [0, 1, 2, 3] rfl rfl) ?_
      refine o_weak (H' := [.vec val0_0 (T_deque_Cell_rep) p_0.was.cells, .obj true blk0 (off0 + 4) (.dat (T_deque_Deque_repo val0_0)) p_0.was] ++ ([] ++ [.hole true blk0 off0 4 ((T_deque_Deque_repo val0_0)).size (T_window_span_repo val0_0) ({ p_0 with last := max p_0.last a_1 }), .gone])) (sub_pick [2, 0, 1, 3] rfl rfl) ?_
      refine o_callU rfl rfl rfl rfl rfl callable51 (looks_cons (look_d rfl rfl (pr hp 0 rfl rfl)) (fun _ => rfl) (looks_cons (look_d rfl rfl (pr hp 1 rfl rfl)) (fun _ => rfl) (looks_nil))) .nil (deque_Deque_Prune_ok _ _ _ p_0.was (IntKind.i64.wrap ((max p_0.last a_1) - p_0.hi))) (fun _ _ => (wr_v (wr_c wr_n))) (fun z3α => o_eqOH ?_)
      refine o_weak (H' := [.vec z3α (T_deque_Cell_rep) z2.2.cells, .obj true blk0 (off0 + 4) (.dat (T_deque_Deque_repo z3α)) z2.2, .hole true blk0 off0 4 ((T_deque_Deque_repo val0_0)).size (T_window_span_repo val0_0) ({ p_0 with last := max p_0.last a_1 }), .gone]) (sub_pick [0, 1, 2, 3] rfl rfl) ?_
      refine o_weak (H' := [.obj true blk0 (off0 + 4) (.dat (T_deque_Deque_repo z3α)) z2.2, .hole true blk0 off0 4 ((T_deque_Deque_repo val0_0)).size (T_window_span_repo val0_0) ({ p_0 with last := max p_0.last a_1 }), .vec z3α (T_deque_Cell_rep) z2.2.cells, .gone]) (sub_pick [1, 2, 0, 3] rfl rfl) ?_
      refine o_weak (sub_whole (T_window_span_focw4 val0_0 z3α)) ?_
      refine o_weak (H' := [.obj true blk0 off0 (.dat (T_window_span_repo z3α)) ({ ({ p_0 with last := max p_0.last a_1 }) with was := z2.2 }), .vec z3α (T_deque_Cell_rep) z2.2.cells, .gone]) (sub_pick [0, 1, 2] rfl rfl) ?_
      refine o_weak sub_gone ?_
      refine o_weak (H' := [.obj true blk0 off0 (.dat (T_window_span_repo z3α)) ({ ({ p_0 with last := max p_0.last a_1 }) with was := z2.2 }), .gone, .vec z3α (T_deque_Cell_rep) z2.2.cells]) (sub_pick [1, 0, 2] rfl rfl) ?_
      apply h_endA (α := z1α) z3α
      · exact (.same (.same (.same (.same (.same (.same (.same (.same (.same (.same (.same (.same (.same .nil)))))))))))))
      · exact rfl
      · exact rfl
      · exact rfl
      · exact hB z3α (fun k => S k || Nat.beq k 12) true (or_i rfl)
    refine den_weak (H' := [.obj true blk0 off0 (.dat (T_window_span_repo z1α)) ({ ({ p_0 with last := max p_0.last a_1 }) with was := z2.2 }), .vec z1α (T_deque_Cell_rep) z2.2.cells]) (sub_pick [0, 2] rfl rfl) ?_
    exact den_fallI z1α (res0 rfl ) (fun _ _ _ k => ato_pick [1, 0] rfl rfl k)
  · refine den_skip ?_
    exact den_fallI val0_0 (res0 rfl ) (fun _ _ _ k => ato_pick [1, 0] rfl rfl k)

theorem window_span_note_ok (blk0 : Nat) (off0 : Nat) (val0_0 : Value) (p_0 : T_window_span) : FunOkI Try.prog 55 [⟨.addr, (blk0, off0), true⟩] [.vec val0_0 (T_deque_Cell_rep) p_0.was.cells, .obj true blk0 off0 (.dat (T_window_span_repo val0_0)) p_0] (window_span_note p_0) (Rep.unit) (fun (α : Value) (y : T_window_span) => ()) (fun α y => [.vec α (T_deque_Cell_rep) y.was.cells, .obj true blk0 off0 (.dat (T_window_span_repo α)) y]) := by
  refine fun_okI Try.func55 rfl Try.ntmps55 rfl (all_cons rfl all_nil) (fun w0 ok0 M => ?_)
  refine den_seq ?_
  refine den_region rfl ?_
  refine o_move rfl rfl guard_none (look_tmp rfl) (fun _ => rfl) ?_
  refine o_nilc rfl rfl guard_none (look_tmp rfl) (fun _ => rfl) ?_
  refine o_faddr field77_1 type2 (by decide) rfl rfl guard_none (look_tmp rfl) (fun _ => rfl) ?_
  refine o_oloadi 1 rfl type2 (T_window_span_foco1 val0_0) rfl guard_none (look_tmp rfl) (fun _ => rfl) ?_
  refine o_neq rfl rfl guard_none (look_tmp rfl) (look_int rfl) (fun _ => rfl) (fun _ => rfl) ?_
  refine o_move rfl rfl guard_none (look_tmp rfl) (fun _ => rfl) ?_
  refine o_move rfl rfl (guard_some rfl rfl rfl) (look_tmp rfl) (fun _ => rfl) ?_
  refine o_nilc rfl rfl (guard_some rfl rfl rfl) (look_tmp rfl) (fun h => h) ?_
  refine o_faddr field77_4 type29 (by decide) rfl rfl (guard_some rfl rfl rfl) (look_tmp rfl) (fun h => h) ?_
  refine o_weak (H' := [.obj true blk0 off0 (.dat (T_window_span_repo val0_0)) p_0, .vec val0_0 (T_deque_Cell_rep) p_0.was.cells]) (sub_pick [1, 0] rfl rfl) ?_
  refine o_weak (sub_part (R' := (T_window_span_repo val0_0)) (S' := (T_deque_Deque_repo val0_0)) (T_window_span_focw4 val0_0 val0_0) rfl) ?_
  refine o_weak (H' := [.obj true blk0 (off0 + 4) (.dat (T_deque_Deque_repo val0_0)) p_0.was, .hole true blk0 off0 4 ((T_deque_Deque_repo val0_0)).size (T_window_span_repo val0_0) p_0, .vec val0_0 (T_deque_Cell_rep) p_0.was.cells]) (sub_pick [0, 1, 2] rfl rfl) ?_
  refine o_weak (H' := [] ++ ([.vec val0_0 (T_deque_Cell_rep) p_0.was.cells, .obj true blk0 (off0 + 4) (.dat (T_deque_Deque_repo val0_0)) p_0.was] ++ [.hole true blk0 off0 4 ((T_deque_Deque_repo val0_0)).size (T_window_span_repo val0_0) p_0])) (sub_pick [2, 0, 1] rfl rfl) ?_
  refine o_callX (its := []) (0 : Int) () rfl rfl rfl rfl (guard_some rfl rfl rfl) callable44 (looks_cons (look_tmp rfl) (fun h => h) (looks_nil)) (.vec (.cons .nil)) (deque_Deque_Len_ok _ _ _ p_0.was) (fun _ _ => wr_n) ?_ (fun z2α z1 => ?_)
  · exact fun _ => rfl
  refine o_weak (H' := [.vec val0_0 (T_deque_Cell_rep) p_0.was.cells, .obj true blk0 (off0 + 4) (.dat (T_deque_Deque_repo val0_0)) p_0.was, .hole true blk0 off0 4 ((T_deque_Deque_repo val0_0)).size (T_window_span_repo val0_0) p_0]) (sub_pick [0, 1, 2] rfl rfl) ?_
  refine o_weak (H' := [.obj true blk0 (off0 + 4) (.dat (T_deque_Deque_repo val0_0)) p_0.was, .hole true blk0 off0 4 ((T_deque_Deque_repo val0_0)).size (T_window_span_repo val0_0) p_0, .vec val0_0 (T_deque_Cell_rep) p_0.was.cells]) (sub_pick [1, 2, 0] rfl rfl) ?_
  refine o_weak (sub_whole (T_window_span_focw4 val0_0 val0_0)) ?_
  refine o_weak (H' := [.obj true blk0 off0 (.dat (T_window_span_repo val0_0)) p_0, .vec val0_0 (T_deque_Cell_rep) p_0.was.cells]) (sub_pick [0, 1] rfl rfl) ?_
  refine o_eql rfl rfl (guard_some rfl rfl rfl) (look_tmp rfl) (look_int rfl) (fun h => h) (fun _ => rfl) ?_
  refine o_pick rfl rfl guard_none (look_tmp rfl) look_bool (look_tmp rfl) (fun _ => rfl) (fun _ _ => rfl) (fun h1 h2 => pick_f ((fun _ => rfl) h1) h2) ?_
  refine o_end ?_
  refine den_cond (look_tmp rfl) ?_ ?_
  · refine den_open (fun z4 h_z4 => ?_)
    have hB : ∀ (z3α : Value) (S : Nat → Bool) (b7 : Bool), S 7 = b7 → (([(cond (S 7) (.obj true blk0 off0 (.dat (T_window_span_repo z3α)) ({ p_0 with was := z4.2 })) (.obj true blk0 off0 (.dat (T_window_span_repo val0_0)) p_0)), (cond (S 7) (.gone) (.vec val0_0 (T_deque_Cell_rep) p_0.was.cells)), (cond (S 7) (.vec (z3α) (T_deque_Cell_rep) z4.2.cells) (.gone))] : List Go.Eng.Item)) = ([(cond b7 (.obj true blk0 off0 (.dat (T_window_span_repo z3α)) ({ p_0 with was := z4.2 })) (.obj true blk0 off0 (.dat (T_window_span_repo val0_0)) p_0)), (cond b7 (.gone) (.vec val0_0 (T_deque_Cell_rep) p_0.was.cells)), (cond b7 (.vec (z3α) (T_deque_Cell_rep) z4.2.cells) (.gone))] : List Go.Eng.Item) := fun z3α S b7 h7 => by subst h7; rfl
    refine den_weak sub_gone ?_
    refine den_weak (sub_pick (H' := [.obj true blk0 off0 (.dat (T_window_span_repo val0_0)) p_0, .vec val0_0 (T_deque_Cell_rep) p_0.was.cells, .gone]) [1, 2, 0] rfl rfl) ?_
    refine den_drawA (A := Value) (H' := fun z3α => [.obj true blk0 off0 (.dat (T_window_span_repo z3α)) ({ p_0 with was := z4.2 }), .gone, .vec (z3α) (T_deque_Cell_rep) z4.2.cells]) (fun z3α => [(14, ⟨Rep.addr, (blk0, off0), true⟩), (15, ⟨Rep.addr, (blk0, off0), true⟩), (16, ⟨Rep.addr, (blk0, off0 + 4), true⟩), (17, ⟨Rep.addr, (blk0, off0), true⟩), (18, ⟨Rep.addr, (blk0, off0), true⟩), (19, ⟨Rep.addr, (blk0, off0 + 2), true⟩), (20, ⟨Rep.int .i64, p_0.last, true⟩), (21, ⟨Rep.bool, z4.1, true⟩)]) (fun z3α S => [(cond (S 7) (.obj true blk0 off0 (.dat (T_window_span_repo z3α)) ({ p_0 with was := z4.2 })) (.obj true blk0 off0 (.dat (T_window_span_repo val0_0)) p_0)), (cond (S 7) (.gone) (.vec val0_0 (T_deque_Cell_rep) p_0.was.cells)), (cond (S 7) (.vec (z3α) (T_deque_Cell_rep) z4.2.cells) (.gone))]) (Value.slice none 0 0) mixed (fun _ => rfl) rfl rfl (fun z3α S hS => hB z3α S true (hS 7 (by decide))) ⟨?_, ?_, ?_, ?_, ?_, ?_, ?_, ?_, trivial⟩ (fun z3α => ?_)
    · intro z3α S hc hk hp
      have e7 : S 7 = false := (not_yet (j := 7) (q := 0) hc (not_yet (j := 2) (q := 0) hc (not_yet (j := 1) (q := 0) hc hk rfl rfl rfl rfl) rfl rfl rfl rfl) rfl rfl rfl rfl)
      refine eq_H (H' := [.obj true blk0 off0 (.dat (T_window_span_repo val0_0)) p_0, .vec val0_0 (T_deque_Cell_rep) p_0.was.cells, .gone]) (by first | exact hB z3α S false e7 | (have q := hB z3α S false e7; simp only [cond_true, cond_false] at q; exact q)) ?_
      refine o_move rfl rfl guard_none (look_o rfl rfl) (fun _ => rfl) ?_
      apply h_endA (α := z3α) z3α
      · exact (.same (.same (.same (.same (.same (.same (.same (.same .nil))))))))
      · exact rfl
      · exact rfl
      · exact rfl
      · exact hB z3α (fun k => S k || Nat.beq k 0) false (or_f e7 rfl)
    · intro z3α S hc hk hp
      have e7 : S 7 = false := (not_yet (j := 7) (q := 0) hc (not_yet (j := 2) (q := 0) hc hk rfl rfl rfl rfl) rfl rfl rfl rfl)
      refine eq_H (H' := [.obj true blk0 off0 (.dat (T_window_span_repo val0_0)) p_0, .vec val0_0 (T_deque_Cell_rep) p_0.was.cells, .gone]) (by first | exact hB z3α S false e7 | (have q := hB z3α S false e7; simp only [cond_true, cond_false] at q; exact q)) ?_
      refine o_nilc rfl rfl guard_none (look_d rfl rfl (pr hp 0 rfl rfl)) (fun _ => rfl) ?_
      apply h_endA (α := z3α) z3α
      · exact (.same (.same (.same (.same (.same (.same (.same (.same .nil))))))))
      · exact rfl
      · exact rfl
      · exact rfl
      · exact hB z3α (fun k => S k || Nat.beq k 1) false (or_f e7 rfl)
    · intro z3α S hc hk hp
      have e7 : S 7 = false := (not_yet (j := 7) (q := 0) hc hk rfl rfl rfl rfl)
      refine eq_H (H' := [.obj true blk0 off0 (.dat (T_window_span_repo val0_0)) p_0, .vec val0_0 (T_deque_Cell_rep) p_0.was.cells, .gone]) (by first | exact hB z3α S false e7 | (have q := hB z3α S false e7; simp only [cond_true, cond_false] at q; exact q)) ?_
      refine o_faddr field77_4 type29 (by decide) rfl rfl guard_none (look_d rfl rfl (pr hp 0 rfl rfl)) (fun _ => rfl) ?_
      apply h_endA (α := z3α) z3α
      · exact (.same (.same (.same (.same (.same (.same (.same (.same .nil))))))))
      · exact rfl
      · exact rfl
      · exact rfl
      · exact hB z3α (fun k => S k || Nat.beq k 2) false (or_f e7 rfl)
    · intro z3α S hc hk hp
      have e7 : S 7 = false := (not_yet (j := 7) (q := 1) hc (not_yet (j := 6) (q := 0) hc (not_yet (j := 5) (q := 0) hc (not_yet (j := 4) (q := 0) hc hk rfl rfl rfl rfl) rfl rfl rfl rfl) rfl rfl rfl rfl) rfl rfl rfl rfl)
      refine eq_H (H' := [.obj true blk0 off0 (.dat (T_window_span_repo val0_0)) p_0, .vec val0_0 (T_deque_Cell_rep) p_0.was.cells, .gone]) (by first | exact hB z3α S false e7 | (have q := hB z3α S false e7; simp only [cond_true, cond_false] at q; exact q)) ?_
      refine o_move rfl rfl guard_none (look_o rfl rfl) (fun _ => rfl) ?_
      apply h_endA (α := z3α) z3α
      · exact (.same (.same (.same (.same (.same (.same (.same (.same .nil))))))))
      · exact rfl
      · exact rfl
      · exact rfl
      · exact hB z3α (fun k => S k || Nat.beq k 3) false (or_f e7 rfl)
    · intro z3α S hc hk hp
      have e7 : S 7 = false := (not_yet (j := 7) (q := 1) hc (not_yet (j := 6) (q := 0) hc (not_yet (j := 5) (q := 0) hc hk rfl rfl rfl rfl) rfl rfl rfl rfl) rfl rfl rfl rfl)
      refine eq_H (H' := [.obj true blk0 off0 (.dat (T_window_span_repo val0_0)) p_0, .vec val0_0 (T_deque_Cell_rep) p_0.was.cells, .gone]) (by first | exact hB z3α S false e7 | (have q := hB z3α S false e7; simp only [cond_true, cond_false] at q; exact q)) ?_
      refine o_nilc rfl rfl guard_none (look_d rfl rfl (pr hp 0 rfl rfl)) (fun _ => rfl) ?_
      apply h_endA (α := z3α) z3α
      · exact (.same (.same (.same (.same (.same (.same (.same (.same .nil))))))))
      · exact rfl
      · exact rfl
      · exact rfl
      · exact hB z3α (fun k => S k || Nat.beq k 4) false (or_f e7 rfl)
    · intro z3α S hc hk hp
      have e7 : S 7 = false := (not_yet (j := 7) (q := 1) hc (not_yet (j := 6) (q := 0) hc hk rfl rfl rfl rfl) rfl rfl rfl rfl)
      refine eq_H (H' := [.obj true blk0 off0 (.dat (T_window_span_repo val0_0)) p_0, .vec val0_0 (T_deque_Cell_rep) p_0.was.cells, .gone]) (by first | exact hB z3α S false e7 | (have q := hB z3α S false e7; simp only [cond_true, cond_false] at q; exact q)) ?_
      refine o_faddr field77_2 type2 (by decide) rfl rfl guard_none (look_d rfl rfl (pr hp 0 rfl rfl)) (fun _ => rfl) ?_
      apply h_endA (α := z3α) z3α
      · exact (.same (.same (.same (.same (.same (.same (.same (.same .nil))))))))
      · exact rfl
      · exact rfl
      · exact rfl
      · exact hB z3α (fun k => S k || Nat.beq k 5) false (or_f e7 rfl)
    · intro z3α S hc hk hp
      have e7 : S 7 = false := (not_yet (j := 7) (q := 1) hc hk rfl rfl rfl rfl)
      refine eq_H (H' := [.obj true blk0 off0 (.dat (T_window_span_repo val0_0)) p_0, .vec val0_0 (T_deque_Cell_rep) p_0.was.cells, .gone]) (by first | exact hB z3α S false e7 | (have q := hB z3α S false e7; simp only [cond_true, cond_false] at q; exact q)) ?_
      refine o_oloadi 0 rfl type2 (T_window_span_foco2 val0_0) rfl guard_none (look_d rfl rfl (pr hp 0 rfl rfl)) (fun _ => rfl) ?_
      apply h_endA (α := z3α) z3α
      · exact (.same (.same (.same (.same (.same (.same (.same (.same .nil))))))))
      · exact rfl
      · exact rfl
      · exact rfl
      · exact hB z3α (fun k => S k || Nat.beq k 6) false (or_f e7 rfl)
    · intro z3α S hc hk hp
      refine eq_H (H' := [.obj true blk0 off0 (.dat (T_window_span_repo val0_0)) p_0, .vec val0_0 (T_deque_Cell_rep) p_0.was.cells, .gone]) (by first | exact hB z3α S false hk | (have q := hB z3α S false hk; simp only [cond_true, cond_false] at q; exact q)) ?_
      refine o_from (bind_eqO h_z4) ?_
      refine o_weak (sub_part (R' := (T_window_span_repo val0_0)) (S' := (T_deque_Deque_repo val0_0)) (T_window_span_focw4 val0_0 val0_0) rfl) ?_
      refine o_weak (H' := [.obj true blk0 (off0 + 4) (.dat (T_deque_Deque_repo val0_0)) p_0.was, .hole true blk0 off0 4 ((T_deque_Deque_repo val0_0)).size (T_window_span_repo val0_0) p_0, .vec val0_0 (T_deque_Cell_rep) p_0.was.cells, .gone]) (sub_pick [0, 1, 2, 3] rfl rfl) ?_
      refine o_weak (H' := [.vec val0_0 (T_deque_Cell_rep) p_0.was.cells, .obj true blk0 (off0 + 4) (.dat (T_deque_Deque_repo val0_0)) p_0.was] ++ ([] ++ [.hole true blk0 off0 4 ((T_deque_Deque_repo val0_0)).size (T_window_span_repo val0_0) p_0, .gone])) (sub_pick [2, 0, 1, 3] rfl rfl) ?_
      refine o_callU rfl rfl rfl rfl rfl callable18 (looks_cons (look_d rfl rfl (pr hp 0 rfl rfl)) (fun _ => rfl) (looks_cons (look_d rfl rfl (pr hp 1 rfl rfl)) (fun _ => rfl) (looks_nil))) .nil (deque_Deque_Push_ok _ _ _ p_0.was p_0.last) (fun _ _ => (wr_v (wr_c wr_n))) (fun z5α => o_eqOH ?_)
      refine o_weak (H' := [.vec z5α (T_deque_Cell_rep) z4.2.cells, .obj true blk0 (off0 + 4) (.dat (T_deque_Deque_repo z5α)) z4.2, .hole true blk0 off0 4 ((T_deque_Deque_repo val0_0)).size (T_window_span_repo val0_0) p_0, .gone]) (sub_pick [0, 1, 2, 3] rfl rfl) ?_
      refine o_weak (H' := [.obj true blk0 (off0 + 4) (.dat (T_deque_Deque_repo z5α)) z4.2, .hole true blk0 off0 4 ((T_deque_Deque_repo val0_0)).size (T_window_span_repo val0_0) p_0, .vec z5α (T_deque_Cell_rep) z4.2.cells, .gone]) (sub_pick [1, 2, 0, 3] rfl rfl) ?_
      refine o_weak (sub_whole (T_window_span_focw4 val0_0 z5α)) ?_
      refine o_weak (H' := [.obj true blk0 off0 (.dat (T_window_span_repo z5α)) ({ p_0 with was := z4.2 }), .vec z5α (T_deque_Cell_rep) z4.2.cells, .gone]) (sub_pick [0, 1, 2] rfl rfl) ?_
      refine o_weak sub_gone ?_
      refine o_weak (H' := [.obj true blk0 off0 (.dat (T_window_span_repo z5α)) ({ p_0 with was := z4.2 }), .gone, .vec z5α (T_deque_Cell_rep) z4.2.cells]) (sub_pick [1, 0, 2] rfl rfl) ?_
      apply h_endA (α := z3α) z5α
      · exact (.same (.same (.same (.same (.same (.same (.same (.same .nil))))))))
      · exact rfl
      · exact rfl
      · exact rfl
      · exact hB z5α (fun k => S k || Nat.beq k 7) true (or_i rfl)
    refine den_weak (H' := [.obj true blk0 off0 (.dat (T_window_span_repo z3α)) ({ p_0 with was := z4.2 }), .vec z3α (T_deque_Cell_rep) z4.2.cells]) (sub_pick [0, 2] rfl rfl) ?_
    exact den_fallI z3α (res0 rfl ) (fun _ _ _ k => ato_pick [1, 0] rfl rfl k)
  · refine den_skip ?_
    exact den_fallI val0_0 (res0 rfl ) (fun _ _ _ k => ato_pick [1, 0] rfl rfl k)

theorem deque_Deque_First_ok (blk0 : Nat) (off0 : Nat) (val0_0 : Value) (d_0 : T_deque_Deque) : FunOkI Try.prog 48 [⟨.addr, (blk0, off0), true⟩] [.rvec val0_0 (T_deque_Cell_rep) d_0.cells, .obj false blk0 off0 (.dat (T_deque_Deque_repo val0_0)) d_0] (deque_Deque_First d_0) (Rep.pair (T_deque_Cell_rep) (Rep.bool)) (fun (α : Unit) (y : (T_deque_Cell × Bool)) => (y.1, y.2)) (fun α y => []) := by
  refine fun_okI Try.func48 rfl Try.ntmps48 rfl (all_cons rfl all_nil) (fun w0 ok0 M => ?_)
  refine den_seq ?_
  refine den_region rfl ?_
  refine o_alloc zero35 rfl rfl (fun z1 => ?_)
  refine o_assign rfl rfl guard_none look_bool (fun _ => rfl) ?_
  refine o_end ?_
  refine den_seq ?_
  refine den_region rfl ?_
  refine o_move rfl rfl guard_none (look_tmp rfl) (fun _ => rfl) ?_
  refine o_weak (H' := [] ++ ([.rvec val0_0 (T_deque_Cell_rep) d_0.cells, .obj false blk0 off0 (.dat (T_deque_Deque_repo val0_0)) d_0] ++ [.obj true z1 0 (.dat T_deque_Cell_rep) T_deque_Cell_zero])) (sub_pick [1, 2, 0] rfl rfl) ?_
  refine o_callU rfl rfl rfl rfl rfl callable63 (looks_cons (look_tmp rfl) (fun _ => rfl) (looks_nil)) (.rvec (.cons .nil)) (deque_Deque_in_ok _ _ _ d_0) (fun _ _ => wr_n) (fun z3α z2 => ?_)
  refine o_weak (H' := [.rvec val0_0 (T_deque_Cell_rep) d_0.cells, .obj false blk0 off0 (.dat (T_deque_Deque_repo val0_0)) d_0, .obj true z1 0 (.dat T_deque_Cell_rep) T_deque_Cell_zero]) (sub_pick [0, 1, 2] rfl rfl) ?_
  refine o_chk (fun hb_z2_0 => ?_)
  refine o_assign rfl rfl guard_none (look_tmp rfl) (fun _ => rfl) ?_
  refine o_end ?_
  refine den_seq ?_
  refine den_seq ?_
  refine den_region rfl ?_
  refine o_move rfl rfl guard_none (look_tmp rfl) (fun _ => rfl) ?_
  refine o_viewlen (p := (z2.1, z2.2)) 0 (.inr rfl) hb_z2_0 Try.underlying24 rfl guard_none (look_tmp rfl) (fun _ => rfl) ?_
  refine o_eql rfl rfl guard_none (look_tmp rfl) (look_int rfl) (fun _ => rfl) (fun _ => rfl) ?_
  refine o_end ?_
  refine den_cond (look_tmp rfl) ?_ ?_
  · refine den_seq ?_
    refine den_region rfl ?_
    refine o_build (R := T_deque_Cell_rep0) (f := T_deque_Cell_tup) (y := (⟨0, 0⟩ : T_deque_Cell)) shape35 rfl rfl rfl rfl guard_none (bld_zero (z_int rfl) (bld_zero (z_int rfl) (bld_nil))) ?_
    refine o_weak (H' := [.obj true z1 0 (.dat T_deque_Cell_rep) T_deque_Cell_zero, .rvec val0_0 (T_deque_Cell_rep) d_0.cells, .obj false blk0 off0 (.dat (T_deque_Deque_repo val0_0)) d_0]) (sub_pick [2, 0, 1] rfl rfl) ?_
    refine o_ostore type35 foc_self guard_none (look_tmp rfl) (fun _ => rfl) (look_tmp rfl) (fun _ => rfl) ?_
    refine o_assign rfl rfl guard_none look_bool (fun _ => rfl) ?_
    refine o_end ?_
    refine den_code_ret ?_
    refine dene_ret ?_
    exact dene_resI () (res2 rfl (rv_cell 0 type35 rfl rfl) (rv_tmp rfl)) (fun _ _ _ k => ato_pick [] rfl rfl k)
  · refine den_skip ?_
    refine den_seq ?_
    refine den_region rfl ?_
    refine o_move rfl rfl guard_none (look_tmp rfl) (fun _ => rfl) ?_
    refine o_viewaddr (p := (z2.1, z2.2)) 0 (.inr rfl) hb_z2_0 Try.underlying24 type35 rfl (look_tmp rfl) (look_int rfl) rfl rfl (fun z4 h_z4 => ?_)
    refine o_vload (j := (z2.1 + z4)) (u := (d_0.cells.getD (z2.1 + z4) T_deque_Cell_zero)) 0 (.inr rfl) type35 rfl guard_none (fun _ => view_get rfl hb_z2_0 h_z4) (look_tmp rfl) (fun _ => rfl) ?_
    refine o_weak (H' := [.obj true z1 0 (.dat T_deque_Cell_rep) T_deque_Cell_zero, .rvec val0_0 (T_deque_Cell_rep) d_0.cells, .obj false blk0 off0 (.dat (T_deque_Deque_repo val0_0)) d_0]) (sub_pick [2, 0, 1] rfl rfl) ?_
    refine o_ostore type35 foc_self guard_none (look_tmp rfl) (fun _ => rfl) (look_tmp rfl) (fun _ => rfl) ?_
    refine o_assign rfl rfl guard_none look_bool (fun _ => rfl) ?_
    refine o_end ?_
    refine den_code_ret ?_
    exact dene_resI () (res2 rfl (rv_cell 0 type35 rfl rfl) (rv_tmp rfl)) (fun _ _ _ k => ato_pick [] rfl rfl k)

theorem window_span_holds_ok (blk0 : Nat) (off0 : Nat) (val0_0 : Value) (p_0 : T_window_span) : FunOkI Try.prog 56 [⟨.addr, (blk0, off0), true⟩] [.rvec val0_0 (T_deque_Cell_rep) p_0.was.cells, .obj false blk0 off0 (.dat (T_window_span_repo val0_0)) p_0] (window_span_holds p_0) (Rep.bool) (fun (α : Unit) (y : Bool) => y) (fun α y => []) := by
  refine fun_okI Try.func56 rfl Try.ntmps56 rfl (all_cons rfl all_nil) (fun w0 ok0 M => ?_)
  refine den_seq ?_
  refine den_region rfl ?_
  refine o_assign rfl rfl guard_none look_bool (fun _ => rfl) ?_
  refine o_end ?_
  refine den_seq ?_
  refine den_region rfl ?_
  refine o_move rfl rfl guard_none (look_tmp rfl) (fun _ => rfl) ?_
  refine o_nilc rfl rfl guard_none (look_tmp rfl) (fun _ => rfl) ?_
  refine o_faddr field77_4 type29 (by decide) rfl rfl guard_none (look_tmp rfl) (fun _ => rfl) ?_
  refine o_weak (H' := [.obj false blk0 off0 (.dat (T_window_span_repo val0_0)) p_0, .rvec val0_0 (T_deque_Cell_rep) p_0.was.cells]) (sub_pick [1, 0] rfl rfl) ?_
  refine o_weak (sub_part (R' := (T_window_span_repo val0_0)) (S' := (T_deque_Deque_repo val0_0)) (T_window_span_focw4 val0_0 val0_0) rfl) ?_
  refine o_weak (H' := [.obj false blk0 (off0 + 4) (.dat (T_deque_Deque_repo val0_0)) p_0.was, .hole false blk0 off0 4 ((T_deque_Deque_repo val0_0)).size (T_window_span_repo val0_0) p_0, .rvec val0_0 (T_deque_Cell_rep) p_0.was.cells]) (sub_pick [0, 1, 2] rfl rfl) ?_
  refine o_weak (H' := [] ++ ([.rvec val0_0 (T_deque_Cell_rep) p_0.was.cells, .obj false blk0 (off0 + 4) (.dat (T_deque_Deque_repo val0_0)) p_0.was] ++ [.hole false blk0 off0 4 ((T_deque_Deque_repo val0_0)).size (T_window_span_repo val0_0) p_0])) (sub_pick [2, 0, 1] rfl rfl) ?_
  refine o_callU rfl rfl rfl rfl rfl callable48 (looks_cons (look_tmp rfl) (fun _ => rfl) (looks_nil)) (.rvec (.cons .nil)) (deque_Deque_First_ok _ _ _ p_0.was) (fun _ _ => wr_n) (fun z2α z1 => ?_)
  refine o_weak (H' := [.rvec val0_0 (T_deque_Cell_rep) p_0.was.cells, .obj false blk0 (off0 + 4) (.dat (T_deque_Deque_repo val0_0)) p_0.was, .hole false blk0 off0 4 ((T_deque_Deque_repo val0_0)).size (T_window_span_repo val0_0) p_0]) (sub_pick [0, 1, 2] rfl rfl) ?_
  refine o_weak (H' := [.obj false blk0 (off0 + 4) (.dat (T_deque_Deque_repo val0_0)) p_0.was, .hole false blk0 off0 4 ((T_deque_Deque_repo val0_0)).size (T_window_span_repo val0_0) p_0, .rvec val0_0 (T_deque_Cell_rep) p_0.was.cells]) (sub_pick [1, 2, 0] rfl rfl) ?_
  refine o_weak (sub_whole (T_window_span_focw4 val0_0 val0_0)) ?_
  refine o_weak (H' := [.obj false blk0 off0 (.dat (T_window_span_repo val0_0)) p_0, .rvec val0_0 (T_deque_Cell_rep) p_0.was.cells]) (sub_pick [0, 1] rfl rfl) ?_
  refine o_move rfl rfl guard_none (look_tmp rfl) (fun _ => rfl) ?_
  refine o_fst rfl rfl guard_none (look_tmp rfl) (fun _ => rfl) ?_
  refine o_snd rfl rfl guard_none (look_tmp rfl) (fun _ => rfl) ?_
  refine o_alloc zero35 rfl rfl (fun z3 => ?_)
  refine o_ostore type35 foc_self guard_none (look_tmp rfl) (fun _ => rfl) (look_tmp rfl) (fun _ => rfl) ?_
  refine o_assign rfl rfl guard_none (look_tmp rfl) (fun _ => rfl) ?_
  refine o_end ?_
  refine den_seq ?_
  refine den_draw [(12, ⟨Rep.bool, z1.2, true⟩), (13, ⟨Rep.bool, z1.2, true⟩), (14, ⟨Rep.addr, (blk0, off0), (true && (z1.2 == true))⟩), (15, ⟨Rep.addr, (blk0, off0), (true && (z1.2 == true))⟩), (16, ⟨Rep.addr, (blk0, off0 + 2), (true && (z1.2 == true))⟩), (17, ⟨Rep.int .i64, p_0.last, (true && (z1.2 == true))⟩), (18, ⟨Rep.addr, (z3, 0), (true && (z1.2 == true))⟩), (19, ⟨Rep.int .i64, z1.1.At, (true && (z1.2 == true))⟩), (20, ⟨Rep.int .i64, IntKind.i64.wrap (p_0.last - z1.1.At), (true && (z1.2 == true))⟩), (21, ⟨Rep.addr, (blk0, off0), (true && (z1.2 == true))⟩), (22, ⟨Rep.addr, (blk0, off0), (true && (z1.2 == true))⟩), (23, ⟨Rep.addr, (blk0, off0), (true && (z1.2 == true))⟩), (24, ⟨Rep.int .i64, p_0.lo, (true && (z1.2 == true))⟩), (25, ⟨Rep.bool, decide (p_0.lo ≤ (IntKind.i64.wrap (p_0.last - z1.1.At))), (true && (z1.2 == true))⟩), (26, ⟨Rep.bool, cond z1.2 (decide (p_0.lo ≤ (IntKind.i64.wrap (p_0.last - z1.1.At)))) false, true⟩), (2, ⟨Rep.bool, cond z1.2 (decide (p_0.lo ≤ (IntKind.i64.wrap (p_0.last - z1.1.At)))) false, true⟩)] mixed rfl rfl ⟨?_, ?_, ?_, ?_, ?_, ?_, ?_, ?_, ?_, ?_, ?_, ?_, ?_, ?_, ?_, ?_, trivial⟩ ?_
  · intro S hc hk hp
    refine o_move rfl rfl guard_none (look_o rfl rfl) (fun _ => rfl) ?_
    exact d_end rfl rfl rfl
  · intro S hc hk hp
    refine o_move rfl rfl guard_none (look_d rfl rfl (pr hp 0 rfl rfl)) (fun _ => rfl) ?_
    exact d_end rfl rfl rfl
  · intro S hc hk hp
    refine o_move rfl rfl (guard_d rfl rfl rfl rfl (pr hp 0 rfl rfl)) (look_o rfl rfl) (fun _ => rfl) ?_
    exact d_end rfl rfl rfl
  · intro S hc hk hp
    refine o_nilc rfl rfl (guard_d rfl rfl rfl rfl (pr hp 1 rfl rfl)) (look_d rfl rfl (pr hp 0 rfl rfl)) (fun h => h) ?_
    exact d_end rfl rfl rfl
  · intro S hc hk hp
    refine o_faddr field77_2 type2 (by decide) rfl rfl (guard_d rfl rfl rfl rfl (pr hp 1 rfl rfl)) (look_d rfl rfl (pr hp 0 rfl rfl)) (fun h => h) ?_
    exact d_end rfl rfl rfl
  · intro S hc hk hp
    refine o_oloadi 1 rfl type2 (T_window_span_foco2 val0_0) rfl (guard_d rfl rfl rfl rfl (pr hp 1 rfl rfl)) (look_d rfl rfl (pr hp 0 rfl rfl)) (fun h => h) ?_
    exact d_end rfl rfl rfl
  · intro S hc hk hp
    refine o_faddr field35_0 type2 (by decide) rfl rfl (guard_d rfl rfl rfl rfl (pr hp 0 rfl rfl)) (look_o rfl rfl) (fun _ => rfl) ?_
    exact d_end rfl rfl rfl
  · intro S hc hk hp
    refine o_oloadi 0 rfl type2 T_deque_Cell_foc0 rfl (guard_d rfl rfl rfl rfl (pr hp 1 rfl rfl)) (look_d rfl rfl (pr hp 0 rfl rfl)) (fun h => h) ?_
    exact d_end rfl rfl rfl
  · intro S hc hk hp
    refine o_sub rfl rfl (guard_d rfl rfl rfl rfl (pr hp 2 rfl rfl)) (look_d rfl rfl (pr hp 0 rfl rfl)) (look_d rfl rfl (pr hp 1 rfl rfl)) (fun h => h) (fun h => h) ?_
    exact d_end rfl rfl rfl
  · intro S hc hk hp
    refine o_move rfl rfl (guard_d rfl rfl rfl rfl (pr hp 0 rfl rfl)) (look_o rfl rfl) (fun _ => rfl) ?_
    exact d_end rfl rfl rfl
  · intro S hc hk hp
    refine o_nilc rfl rfl (guard_d rfl rfl rfl rfl (pr hp 1 rfl rfl)) (look_d rfl rfl (pr hp 0 rfl rfl)) (fun h => h) ?_
    exact d_end rfl rfl rfl
  · intro S hc hk hp
    refine o_faddr field77_0 type2 (by decide) rfl rfl (guard_d rfl rfl rfl rfl (pr hp 1 rfl rfl)) (look_d rfl rfl (pr hp 0 rfl rfl)) (fun h => h) ?_
    exact d_end rfl rfl rfl
  · intro S hc hk hp
    refine o_oloadi 1 rfl type2 (T_window_span_foco0 val0_0) rfl (guard_d rfl rfl rfl rfl (pr hp 1 rfl rfl)) (look_d rfl rfl (pr hp 0 rfl rfl)) (fun h => h) ?_
    exact d_end rfl rfl rfl
  · intro S hc hk hp
    refine o_geq rfl rfl (guard_d rfl rfl rfl rfl (pr hp 2 rfl rfl)) (look_d rfl rfl (pr hp 0 rfl rfl)) (look_d rfl rfl (pr hp 1 rfl rfl)) (fun h => h) (fun h => h) ?_
    exact d_end rfl rfl rfl
  · intro S hc hk hp
    refine o_pick rfl rfl guard_none (look_d rfl rfl (pr hp 0 rfl rfl)) (look_d rfl rfl (pr hp 1 rfl rfl)) look_bool (fun _ => rfl) (fun h1 h2 => pick_t ((fun _ => rfl) h1) h2) (fun _ _ => rfl) ?_
    exact d_end rfl rfl rfl
  · intro S hc hk hp
    refine o_assign rfl rfl guard_none (look_d rfl rfl (pr hp 0 rfl rfl)) (fun _ => rfl) ?_
    exact d_end rfl rfl rfl
  refine den_code_ret ?_
  exact dene_resI () (res1 rfl (rv_tmp rfl)) (fun _ _ _ k => ato_pick [] rfl rfl k)

theorem window_Once_Step_ok (blk0 : Nat) (off0 : Nat) (val0_0 : Value) (w_0 : T_window_Once) (a_1 : Int) (f_2 : Bool) : FunOkI Try.prog 34 [⟨.addr, (blk0, off0), true⟩, ⟨Rep.int .i64, a_1, true⟩, ⟨Rep.bool, f_2, true⟩] [.vec val0_0 (T_deque_Cell_rep) w_0.span.was.cells, .obj true blk0 off0 (.dat (T_window_Once_repo val0_0)) w_0] (window_Once_Step w_0 a_1 f_2) (Rep.bool) (fun (α : Value) (y : (Bool × T_window_Once)) => y.1) (fun α y => [.vec α (T_deque_Cell_rep) y.2.span.was.cells, .obj true blk0 off0 (.dat (T_window_Once_repo α)) y.2]) := by
  refine fun_okI Try.func34 rfl Try.ntmps34 rfl (all_cons rfl (all_cons rfl (all_cons rfl all_nil))) (fun w0 ok0 M => ?_)
  refine den_seq ?_
  refine den_region rfl ?_
  refine o_assign rfl rfl guard_none look_bool (fun _ => rfl) ?_
  refine o_end ?_
  refine den_seq ?_
  refine den_seq ?_
  refine den_region rfl ?_
  refine o_move rfl rfl guard_none (look_tmp rfl) (fun _ => rfl) ?_
  refine o_peql Try.underlying61 rfl rfl guard_none (look_tmp rfl) (fun _ => rfl) ?_
  refine o_move rfl rfl guard_none (look_tmp rfl) (fun _ => rfl) ?_
  refine o_move rfl rfl (guard_some rfl rfl rfl) (look_tmp rfl) (fun _ => rfl) ?_
  refine o_nilc rfl rfl (guard_some rfl rfl rfl) (look_tmp rfl) (fun h => h) ?_
  refine o_faddr field79_0 type77 (by decide) rfl rfl (guard_some rfl rfl rfl) (look_tmp rfl) (fun h => h) ?_
  refine o_faddr field77_3 type4 (by decide) rfl rfl (guard_some rfl rfl rfl) (look_tmp rfl) (fun h => h) ?_
  refine o_oloadi 1 rfl type4 (foc_in (T_window_Once_foco0 val0_0) (T_window_span_foco3 val0_0)) rfl (guard_some rfl rfl rfl) (look_tmp rfl) (fun h => h) ?_
  refine o_not rfl rfl (guard_some rfl rfl rfl) (look_tmp rfl) (fun h => h) ?_
  refine o_pick rfl rfl guard_none (look_tmp rfl) look_bool (look_tmp rfl) (fun _ => rfl) (fun _ _ => rfl) (fun h1 h2 => pick_f ((fun _ => rfl) h1) h2) ?_
  refine o_end ?_
  refine den_cond (look_tmp rfl) ?_ ?_
  · refine den_seq ?_
    refine den_region rfl ?_
    refine o_assign rfl rfl guard_none look_bool (fun _ => rfl) ?_
    refine o_end ?_
    refine den_code_ret ?_
    refine dene_ret ?_
    exact dene_resI val0_0 (res1 rfl (rv_tmp rfl)) (fun _ _ _ k => ato_pick [0, 1] rfl rfl k)
  · refine den_skip ?_
    refine den_seq ?_
    refine den_region rfl ?_
    refine o_move rfl rfl guard_none (look_tmp rfl) (fun _ => rfl) ?_
    refine o_nilc rfl rfl guard_none (look_tmp rfl) (fun _ => rfl) ?_
    refine o_faddr field79_0 type77 (by decide) rfl rfl guard_none (look_tmp rfl) (fun _ => rfl) ?_
    refine o_move rfl rfl guard_none (look_tmp rfl) (fun _ => rfl) ?_
    refine o_weak (H' := [.obj true blk0 off0 (.dat (T_window_Once_repo val0_0)) w_0, .vec val0_0 (T_deque_Cell_rep) w_0.span.was.cells]) (sub_pick [1, 0] rfl rfl) ?_
    refine o_weak (sub_part (R' := (T_window_Once_repo val0_0)) (S' := (T_window_span_repo val0_0)) (T_window_Once_focw0 val0_0 val0_0) rfl) ?_
    refine o_weak (H' := [.obj true blk0 (off0 + 0) (.dat (T_window_span_repo val0_0)) w_0.span, .hole true blk0 off0 0 ((T_window_span_repo val0_0)).size (T_window_Once_repo val0_0) w_0, .vec val0_0 (T_deque_Cell_rep) w_0.span.was.cells]) (sub_pick [0, 1, 2] rfl rfl) ?_
    refine o_weak (H' := [.vec val0_0 (T_deque_Cell_rep) w_0.span.was.cells, .obj true blk0 (off0 + 0) (.dat (T_window_span_repo val0_0)) w_0.span] ++ ([] ++ [.hole true blk0 off0 0 ((T_window_span_repo val0_0)).size (T_window_Once_repo val0_0) w_0])) (sub_pick [2, 0, 1] rfl rfl) ?_
    refine o_callU rfl rfl rfl rfl rfl callable54 (looks_cons (look_tmp rfl) (fun _ => rfl) (looks_cons (look_tmp rfl) (fun _ => rfl) (looks_nil))) .nil (window_span_moment_ok _ _ _ w_0.span a_1) (fun _ _ => (wr_v (wr_c wr_n))) (fun z2α z1 => ?_)
    refine o_weak (H' := [.vec z2α (T_deque_Cell_rep) z1.was.cells, .obj true blk0 (off0 + 0) (.dat (T_window_span_repo z2α)) z1, .hole true blk0 off0 0 ((T_window_span_repo val0_0)).size (T_window_Once_repo val0_0) w_0]) (sub_pick [0, 1, 2] rfl rfl) ?_
    refine o_weak (H' := [.obj true blk0 (off0 + 0) (.dat (T_window_span_repo z2α)) z1, .hole true blk0 off0 0 ((T_window_span_repo val0_0)).size (T_window_Once_repo val0_0) w_0, .vec z2α (T_deque_Cell_rep) z1.was.cells]) (sub_pick [1, 2, 0] rfl rfl) ?_
    refine o_weak (sub_whole (T_window_Once_focw0 val0_0 z2α)) ?_
    refine o_weak (H' := [.obj true blk0 off0 (.dat (T_window_Once_repo z2α)) ({ w_0 with span := z1 }), .vec z2α (T_deque_Cell_rep) z1.was.cells]) (sub_pick [0, 1] rfl rfl) ?_
    refine o_end ?_
    refine den_seq ?_
    refine den_seq ?_
    refine den_region rfl ?_
    refine o_move rfl rfl guard_none (look_tmp rfl) (fun _ => rfl) ?_
    refine o_end ?_
    refine den_cond (look_tmp rfl) ?_ ?_
    · refine den_region rfl ?_
      refine o_move rfl rfl guard_none (look_tmp rfl) (fun _ => rfl) ?_
      refine o_nilc rfl rfl guard_none (look_tmp rfl) (fun _ => rfl) ?_
      refine o_faddr field79_0 type77 (by decide) rfl rfl guard_none (look_tmp rfl) (fun _ => rfl) ?_
      refine o_weak (sub_part (R' := (T_window_Once_repo z2α)) (S' := (T_window_span_repo z2α)) (T_window_Once_focw0 z2α z2α) rfl) ?_
      refine o_weak (H' := [.obj true blk0 (off0 + 0) (.dat (T_window_span_repo z2α)) z1, .hole true blk0 off0 0 ((T_window_span_repo z2α)).size (T_window_Once_repo z2α) ({ w_0 with span := z1 }), .vec z2α (T_deque_Cell_rep) z1.was.cells]) (sub_pick [0, 1, 2] rfl rfl) ?_
      refine o_weak (H' := [.vec z2α (T_deque_Cell_rep) z1.was.cells, .obj true blk0 (off0 + 0) (.dat (T_window_span_repo z2α)) z1] ++ ([] ++ [.hole true blk0 off0 0 ((T_window_span_repo z2α)).size (T_window_Once_repo z2α) ({ w_0 with span := z1 })])) (sub_pick [2, 0, 1] rfl rfl) ?_
      refine o_callU rfl rfl rfl rfl rfl callable55 (looks_cons (look_tmp rfl) (fun _ => rfl) (looks_nil)) .nil (window_span_note_ok _ _ _ z1) (fun _ _ => (wr_v (wr_c wr_n))) (fun z5α z4 => ?_)
      refine o_weak (H' := [.vec z5α (T_deque_Cell_rep) z4.was.cells, .obj true blk0 (off0 + 0) (.dat (T_window_span_repo z5α)) z4, .hole true blk0 off0 0 ((T_window_span_repo z2α)).size (T_window_Once_repo z2α) ({ w_0 with span := z1 })]) (sub_pick [0, 1, 2] rfl rfl) ?_
      refine o_weak (H' := [.obj true blk0 (off0 + 0) (.dat (T_window_span_repo z5α)) z4, .hole true blk0 off0 0 ((T_window_span_repo z2α)).size (T_window_Once_repo z2α) ({ w_0 with span := z1 }), .vec z5α (T_deque_Cell_rep) z4.was.cells]) (sub_pick [1, 2, 0] rfl rfl) ?_
      refine o_weak (sub_whole (T_window_Once_focw0 z2α z5α)) ?_
      refine o_weak (H' := [.obj true blk0 off0 (.dat (T_window_Once_repo z5α)) ({ w_0 with span := z4 }), .vec z5α (T_deque_Cell_rep) z4.was.cells]) (sub_pick [0, 1] rfl rfl) ?_
      refine o_end ?_
      refine den_seq ?_
      refine den_region rfl ?_
      refine o_move rfl rfl guard_none (look_tmp rfl) (fun _ => rfl) ?_
      refine o_nilc rfl rfl guard_none (look_tmp rfl) (fun _ => rfl) ?_
      refine o_faddr field79_0 type77 (by decide) rfl rfl guard_none (look_tmp rfl) (fun _ => rfl) ?_
      refine o_weak (sub_part (R' := (T_window_Once_repo z5α)) (S' := (T_window_span_repo z5α)) (T_window_Once_focw0 z5α z5α) rfl) ?_
      refine o_weak (H' := [.obj true blk0 (off0 + 0) (.dat (T_window_span_repo z5α)) z4, .hole true blk0 off0 0 ((T_window_span_repo z5α)).size (T_window_Once_repo z5α) ({ w_0 with span := z4 }), .vec z5α (T_deque_Cell_rep) z4.was.cells]) (sub_pick [0, 1, 2] rfl rfl) ?_
      refine o_weak (H' := [] ++ ([.vec z5α (T_deque_Cell_rep) z4.was.cells, .obj true blk0 (off0 + 0) (.dat (T_window_span_repo z5α)) z4] ++ [.hole true blk0 off0 0 ((T_window_span_repo z5α)).size (T_window_Once_repo z5α) ({ w_0 with span := z4 })])) (sub_pick [2, 0, 1] rfl rfl) ?_
      refine o_callU rfl rfl rfl rfl rfl callable56 (looks_cons (look_tmp rfl) (fun _ => rfl) (looks_nil)) (.vec (.cons .nil)) (window_span_holds_ok _ _ _ z4) (fun _ _ => wr_n) (fun z8α z7 => ?_)
      refine o_weak (H' := [.vec z5α (T_deque_Cell_rep) z4.was.cells, .obj true blk0 (off0 + 0) (.dat (T_window_span_repo z5α)) z4, .hole true blk0 off0 0 ((T_window_span_repo z5α)).size (T_window_Once_repo z5α) ({ w_0 with span := z4 })]) (sub_pick [0, 1, 2] rfl rfl) ?_
      refine o_weak (H' := [.obj true blk0 (off0 + 0) (.dat (T_window_span_repo z5α)) z4, .hole true blk0 off0 0 ((T_window_span_repo z5α)).size (T_window_Once_repo z5α) ({ w_0 with span := z4 }), .vec z5α (T_deque_Cell_rep) z4.was.cells]) (sub_pick [1, 2, 0] rfl rfl) ?_
      refine o_weak (sub_whole (T_window_Once_focw0 z5α z5α)) ?_
      refine o_weak (H' := [.obj true blk0 off0 (.dat (T_window_Once_repo z5α)) ({ w_0 with span := z4 }), .vec z5α (T_deque_Cell_rep) z4.was.cells]) (sub_pick [0, 1] rfl rfl) ?_
      refine o_assign rfl rfl guard_none (look_tmp rfl) (fun _ => rfl) ?_
      refine o_end ?_
      refine den_code_ret ?_
      exact dene_resI z5α (res1 rfl (rv_tmp rfl)) (fun _ _ _ k => ato_pick [1, 0] rfl rfl k)
    · refine den_skip ?_
      refine den_seq ?_
      refine den_region rfl ?_
      refine o_move rfl rfl guard_none (look_tmp rfl) (fun _ => rfl) ?_
      refine o_nilc rfl rfl guard_none (look_tmp rfl) (fun _ => rfl) ?_
      refine o_faddr field79_0 type77 (by decide) rfl rfl guard_none (look_tmp rfl) (fun _ => rfl) ?_
      refine o_weak (sub_part (R' := (T_window_Once_repo z2α)) (S' := (T_window_span_repo z2α)) (T_window_Once_focw0 z2α z2α) rfl) ?_
      refine o_weak (H' := [.obj true blk0 (off0 + 0) (.dat (T_window_span_repo z2α)) z1, .hole true blk0 off0 0 ((T_window_span_repo z2α)).size (T_window_Once_repo z2α) ({ w_0 with span := z1 }), .vec z2α (T_deque_Cell_rep) z1.was.cells]) (sub_pick [0, 1, 2] rfl rfl) ?_
      refine o_weak (H' := [] ++ ([.vec z2α (T_deque_Cell_rep) z1.was.cells, .obj true blk0 (off0 + 0) (.dat (T_window_span_repo z2α)) z1] ++ [.hole true blk0 off0 0 ((T_window_span_repo z2α)).size (T_window_Once_repo z2α) ({ w_0 with span := z1 })])) (sub_pick [2, 0, 1] rfl rfl) ?_
      refine o_callU rfl rfl rfl rfl rfl callable56 (looks_cons (look_tmp rfl) (fun _ => rfl) (looks_nil)) (.vec (.cons .nil)) (window_span_holds_ok _ _ _ z1) (fun _ _ => wr_n) (fun z10α z9 => ?_)
      refine o_weak (H' := [.vec z2α (T_deque_Cell_rep) z1.was.cells, .obj true blk0 (off0 + 0) (.dat (T_window_span_repo z2α)) z1, .hole true blk0 off0 0 ((T_window_span_repo z2α)).size (T_window_Once_repo z2α) ({ w_0 with span := z1 })]) (sub_pick [0, 1, 2] rfl rfl) ?_
      refine o_weak (H' := [.obj true blk0 (off0 + 0) (.dat (T_window_span_repo z2α)) z1, .hole true blk0 off0 0 ((T_window_span_repo z2α)).size (T_window_Once_repo z2α) ({ w_0 with span := z1 }), .vec z2α (T_deque_Cell_rep) z1.was.cells]) (sub_pick [1, 2, 0] rfl rfl) ?_
      refine o_weak (sub_whole (T_window_Once_focw0 z2α z2α)) ?_
      refine o_weak (H' := [.obj true blk0 off0 (.dat (T_window_Once_repo z2α)) ({ w_0 with span := z1 }), .vec z2α (T_deque_Cell_rep) z1.was.cells]) (sub_pick [0, 1] rfl rfl) ?_
      refine o_assign rfl rfl guard_none (look_tmp rfl) (fun _ => rfl) ?_
      refine o_end ?_
      refine den_code_ret ?_
      exact dene_resI z2α (res1 rfl (rv_tmp rfl)) (fun _ _ _ k => ato_pick [1, 0] rfl rfl k)

theorem window_span_remembered_ok (blk0 : Nat) (off0 : Nat) (val0_0 : Value) (p_0 : T_window_span) : FunOkI Try.prog 57 [⟨.addr, (blk0, off0), true⟩] [.rvec val0_0 (T_deque_Cell_rep) p_0.was.cells, .obj false blk0 off0 (.dat (T_window_span_repo val0_0)) p_0] (window_span_remembered p_0) (Rep.int .i64) (fun (α : Unit) (y : Int) => y) (fun α y => []) := by
  refine fun_okI Try.func57 rfl Try.ntmps57 rfl (all_cons rfl all_nil) (fun w0 ok0 M => ?_)
  refine den_seq ?_
  refine den_region rfl ?_
  refine o_assign rfl rfl guard_none (look_int rfl) (fun _ => rfl) ?_
  refine o_end ?_
  refine den_seq ?_
  refine den_region rfl ?_
  refine o_move rfl rfl guard_none (look_tmp rfl) (fun _ => rfl) ?_
  refine o_nilc rfl rfl guard_none (look_tmp rfl) (fun _ => rfl) ?_
  refine o_faddr field77_4 type29 (by decide) rfl rfl guard_none (look_tmp rfl) (fun _ => rfl) ?_
  refine o_weak (H' := [.obj false blk0 off0 (.dat (T_window_span_repo val0_0)) p_0, .rvec val0_0 (T_deque_Cell_rep) p_0.was.cells]) (sub_pick [1, 0] rfl rfl) ?_
  refine o_weak (sub_part (R' := (T_window_span_repo val0_0)) (S' := (T_deque_Deque_repo val0_0)) (T_window_span_focw4 val0_0 val0_0) rfl) ?_
  refine o_weak (H' := [.obj false blk0 (off0 + 4) (.dat (T_deque_Deque_repo val0_0)) p_0.was, .hole false blk0 off0 4 ((T_deque_Deque_repo val0_0)).size (T_window_span_repo val0_0) p_0, .rvec val0_0 (T_deque_Cell_rep) p_0.was.cells]) (sub_pick [0, 1, 2] rfl rfl) ?_
  refine o_weak (H' := [] ++ ([.rvec val0_0 (T_deque_Cell_rep) p_0.was.cells, .obj false blk0 (off0 + 4) (.dat (T_deque_Deque_repo val0_0)) p_0.was] ++ [.hole false blk0 off0 4 ((T_deque_Deque_repo val0_0)).size (T_window_span_repo val0_0) p_0])) (sub_pick [2, 0, 1] rfl rfl) ?_
  refine o_callU rfl rfl rfl rfl rfl callable44 (looks_cons (look_tmp rfl) (fun _ => rfl) (looks_nil)) (.rvec (.cons .nil)) (deque_Deque_Len_ok _ _ _ p_0.was) (fun _ _ => wr_n) (fun z2α z1 => ?_)
  refine o_weak (H' := [.rvec val0_0 (T_deque_Cell_rep) p_0.was.cells, .obj false blk0 (off0 + 4) (.dat (T_deque_Deque_repo val0_0)) p_0.was, .hole false blk0 off0 4 ((T_deque_Deque_repo val0_0)).size (T_window_span_repo val0_0) p_0]) (sub_pick [0, 1, 2] rfl rfl) ?_
  refine o_weak (H' := [.obj false blk0 (off0 + 4) (.dat (T_deque_Deque_repo val0_0)) p_0.was, .hole false blk0 off0 4 ((T_deque_Deque_repo val0_0)).size (T_window_span_repo val0_0) p_0, .rvec val0_0 (T_deque_Cell_rep) p_0.was.cells]) (sub_pick [1, 2, 0] rfl rfl) ?_
  refine o_weak (sub_whole (T_window_span_focw4 val0_0 val0_0)) ?_
  refine o_weak (H' := [.obj false blk0 off0 (.dat (T_window_span_repo val0_0)) p_0, .rvec val0_0 (T_deque_Cell_rep) p_0.was.cells]) (sub_pick [0, 1] rfl rfl) ?_
  refine o_assign rfl rfl guard_none (look_tmp rfl) (fun _ => rfl) ?_
  refine o_end ?_
  refine den_code_ret ?_
  exact dene_resI () (res1 rfl (rv_tmp rfl)) (fun _ _ _ k => ato_pick [] rfl rfl k)

theorem window_Once_Cells_ok (blk0 : Nat) (off0 : Nat) (val0_0 : Value) (w_0 : T_window_Once) : FunOkI Try.prog 35 [⟨.addr, (blk0, off0), true⟩] [.rvec val0_0 (T_deque_Cell_rep) w_0.span.was.cells, .obj false blk0 off0 (.dat (T_window_Once_repo val0_0)) w_0] (window_Once_Cells w_0) (Rep.int .i64) (fun (α : Unit) (y : Int) => y) (fun α y => []) := by
  refine fun_okI Try.func35 rfl Try.ntmps35 rfl (all_cons rfl all_nil) (fun w0 ok0 M => ?_)
  refine den_seq ?_
  refine den_region rfl ?_
  refine o_assign rfl rfl guard_none (look_int rfl) (fun _ => rfl) ?_
  refine o_end ?_
  refine den_seq ?_
  refine den_seq ?_
  refine den_region rfl ?_
  refine o_move rfl rfl guard_none (look_tmp rfl) (fun _ => rfl) ?_
  refine o_peql Try.underlying61 rfl rfl guard_none (look_tmp rfl) (fun _ => rfl) ?_
  refine o_end ?_
  refine den_condf (look_tmp rfl) ?_
  refine den_skip ?_
  refine den_seq ?_
  refine den_region rfl ?_
  refine o_move rfl rfl guard_none (look_tmp rfl) (fun _ => rfl) ?_
  refine o_nilc rfl rfl guard_none (look_tmp rfl) (fun _ => rfl) ?_
  refine o_faddr field79_0 type77 (by decide) rfl rfl guard_none (look_tmp rfl) (fun _ => rfl) ?_
  refine o_weak (H' := [.obj false blk0 off0 (.dat (T_window_Once_repo val0_0)) w_0, .rvec val0_0 (T_deque_Cell_rep) w_0.span.was.cells]) (sub_pick [1, 0] rfl rfl) ?_
  refine o_weak (sub_part (R' := (T_window_Once_repo val0_0)) (S' := (T_window_span_repo val0_0)) (T_window_Once_focw0 val0_0 val0_0) rfl) ?_
  refine o_weak (H' := [.obj false blk0 (off0 + 0) (.dat (T_window_span_repo val0_0)) w_0.span, .hole false blk0 off0 0 ((T_window_span_repo val0_0)).size (T_window_Once_repo val0_0) w_0, .rvec val0_0 (T_deque_Cell_rep) w_0.span.was.cells]) (sub_pick [0, 1, 2] rfl rfl) ?_
  refine o_weak (H' := [] ++ ([.rvec val0_0 (T_deque_Cell_rep) w_0.span.was.cells, .obj false blk0 (off0 + 0) (.dat (T_window_span_repo val0_0)) w_0.span] ++ [.hole false blk0 off0 0 ((T_window_span_repo val0_0)).size (T_window_Once_repo val0_0) w_0])) (sub_pick [2, 0, 1] rfl rfl) ?_
  refine o_callU rfl rfl rfl rfl rfl callable57 (looks_cons (look_tmp rfl) (fun _ => rfl) (looks_nil)) (.rvec (.cons .nil)) (window_span_remembered_ok _ _ _ w_0.span) (fun _ _ => wr_n) (fun z2α z1 => ?_)
  refine o_weak (H' := [.rvec val0_0 (T_deque_Cell_rep) w_0.span.was.cells, .obj false blk0 (off0 + 0) (.dat (T_window_span_repo val0_0)) w_0.span, .hole false blk0 off0 0 ((T_window_span_repo val0_0)).size (T_window_Once_repo val0_0) w_0]) (sub_pick [0, 1, 2] rfl rfl) ?_
  refine o_weak (H' := [.obj false blk0 (off0 + 0) (.dat (T_window_span_repo val0_0)) w_0.span, .hole false blk0 off0 0 ((T_window_span_repo val0_0)).size (T_window_Once_repo val0_0) w_0, .rvec val0_0 (T_deque_Cell_rep) w_0.span.was.cells]) (sub_pick [1, 2, 0] rfl rfl) ?_
  refine o_weak (sub_whole (T_window_Once_focw0 val0_0 val0_0)) ?_
  refine o_weak (H' := [.obj false blk0 off0 (.dat (T_window_Once_repo val0_0)) w_0, .rvec val0_0 (T_deque_Cell_rep) w_0.span.was.cells]) (sub_pick [0, 1] rfl rfl) ?_
  refine o_assign rfl rfl guard_none (look_tmp rfl) (fun _ => rfl) ?_
  refine o_end ?_
  refine den_code_ret ?_
  exact dene_resI () (res1 rfl (rv_tmp rfl)) (fun _ _ _ k => ato_pick [] rfl rfl k)

theorem deque_Deque_Clear_ok (blk0 : Nat) (off0 : Nat) (val0_0 : Value) (d_0 : T_deque_Deque) : FunOkI Try.prog 64 [⟨.addr, (blk0, off0), true⟩] [.vec val0_0 (T_deque_Cell_rep) d_0.cells, .obj true blk0 off0 (.dat (T_deque_Deque_repo val0_0)) d_0] (deque_Deque_Clear d_0) (Rep.unit) (fun (α : Value) (y : T_deque_Deque) => ()) (fun α y => [.vec α (T_deque_Cell_rep) y.cells, .obj true blk0 off0 (.dat (T_deque_Deque_repo α)) y]) := by
  refine fun_okI Try.func64 rfl Try.ntmps64 rfl (all_cons rfl all_nil) (fun w0 ok0 M => ?_)
  refine den_seq ?_
  refine den_region rfl ?_
  refine o_move rfl rfl guard_none (look_tmp rfl) (fun _ => rfl) ?_
  refine o_pneq Try.underlying27 rfl rfl guard_none (look_tmp rfl) (fun _ => rfl) ?_
  refine o_end ?_
  refine den_condt (look_tmp rfl) ?_
  refine den_region rfl ?_
  refine o_move rfl rfl guard_none (look_tmp rfl) (fun _ => rfl) ?_
  refine o_weak (sub_nilvec (R := T_deque_Cell_rep) rfl) ?_
  refine o_build (R := T_deque_Deque_repo0 (Value.slice none 0 0)) (f := T_deque_Deque_tupo) (y := (⟨[], 0, 0⟩ : T_deque_Deque)) shape29 rfl rfl rfl rfl guard_none (bld_zero (z_isv rfl) (bld_zero (z_int rfl) (bld_zero (z_int rfl) (bld_nil)))) ?_
  refine o_nilc rfl rfl guard_none (look_tmp rfl) (fun _ => rfl) ?_
  refine o_weak (H' := [.obj true blk0 off0 (.dat (T_deque_Deque_repo val0_0)) d_0, .vec (Value.slice none 0 0) (T_deque_Cell_rep) ([] : List T_deque_Cell), .vec val0_0 (T_deque_Cell_rep) d_0.cells]) (sub_pick [2, 0, 1] rfl rfl) ?_
  refine o_wstore (typeo29 (Value.slice none 0 0)) (foc2_self rfl (fun h => h)) (look_tmp rfl) rfl (look_tmp rfl) rfl ?_
  refine o_end ?_
  refine den_weak (H' := [.obj true blk0 off0 (.dat (T_deque_Deque_repo (Value.slice none 0 0))) (⟨[], 0, 0⟩ : T_deque_Deque), .vec (Value.slice none 0 0) (T_deque_Cell_rep) ([] : List T_deque_Cell), .vec val0_0 (T_deque_Cell_rep) d_0.cells]) (sub_pick [0, 1, 2] rfl rfl) ?_
  refine den_weak (sub_redat ({ (⟨[], 0, 0⟩ : T_deque_Deque) with cells := ([] : List T_deque_Cell) }) (fun _ _ _ h => h)) ?_
  exact den_fallI (Value.slice none 0 0) (res0 rfl ) (fun _ _ _ k => ato_pick [1, 0] rfl rfl k)

theorem window_span_forget_ok (blk0 : Nat) (off0 : Nat) (val0_0 : Value) (p_0 : T_window_span) : FunOkI Try.prog 58 [⟨.addr, (blk0, off0), true⟩] [.vec val0_0 (T_deque_Cell_rep) p_0.was.cells, .obj true blk0 off0 (.dat (T_window_span_repo val0_0)) p_0] (window_span_forget p_0) (Rep.unit) (fun (α : Value) (y : T_window_span) => ()) (fun α y => [.vec α (T_deque_Cell_rep) y.was.cells, .obj true blk0 off0 (.dat (T_window_span_repo α)) y]) := by
  refine fun_okI Try.func58 rfl Try.ntmps58 rfl (all_cons rfl all_nil) (fun w0 ok0 M => ?_)
  refine den_region rfl ?_
  refine o_move rfl rfl guard_none (look_tmp rfl) (fun _ => rfl) ?_
  refine o_nilc rfl rfl guard_none (look_tmp rfl) (fun _ => rfl) ?_
  refine o_faddr field77_4 type29 (by decide) rfl rfl guard_none (look_tmp rfl) (fun _ => rfl) ?_
  refine o_weak (H' := [.obj true blk0 off0 (.dat (T_window_span_repo val0_0)) p_0, .vec val0_0 (T_deque_Cell_rep) p_0.was.cells]) (sub_pick [1, 0] rfl rfl) ?_
  refine o_weak (sub_part (R' := (T_window_span_repo val0_0)) (S' := (T_deque_Deque_repo val0_0)) (T_window_span_focw4 val0_0 val0_0) rfl) ?_
  refine o_weak (H' := [.obj true blk0 (off0 + 4) (.dat (T_deque_Deque_repo val0_0)) p_0.was, .hole true blk0 off0 4 ((T_deque_Deque_repo val0_0)).size (T_window_span_repo val0_0) p_0, .vec val0_0 (T_deque_Cell_rep) p_0.was.cells]) (sub_pick [0, 1, 2] rfl rfl) ?_
  refine o_weak (H' := [.vec val0_0 (T_deque_Cell_rep) p_0.was.cells, .obj true blk0 (off0 + 4) (.dat (T_deque_Deque_repo val0_0)) p_0.was] ++ ([] ++ [.hole true blk0 off0 4 ((T_deque_Deque_repo val0_0)).size (T_window_span_repo val0_0) p_0])) (sub_pick [2, 0, 1] rfl rfl) ?_
  refine o_callU rfl rfl rfl rfl rfl callable64 (looks_cons (look_tmp rfl) (fun _ => rfl) (looks_nil)) .nil (deque_Deque_Clear_ok _ _ _ p_0.was) (fun _ _ => (wr_v (wr_c wr_n))) (fun z2α z1 => ?_)
  refine o_weak (H' := [.vec z2α (T_deque_Cell_rep) z1.cells, .obj true blk0 (off0 + 4) (.dat (T_deque_Deque_repo z2α)) z1, .hole true blk0 off0 4 ((T_deque_Deque_repo val0_0)).size (T_window_span_repo val0_0) p_0]) (sub_pick [0, 1, 2] rfl rfl) ?_
  refine o_weak (H' := [.obj true blk0 (off0 + 4) (.dat (T_deque_Deque_repo z2α)) z1, .hole true blk0 off0 4 ((T_deque_Deque_repo val0_0)).size (T_window_span_repo val0_0) p_0, .vec z2α (T_deque_Cell_rep) z1.cells]) (sub_pick [1, 2, 0] rfl rfl) ?_
  refine o_weak (sub_whole (T_window_span_focw4 val0_0 z2α)) ?_
  refine o_weak (H' := [.obj true blk0 off0 (.dat (T_window_span_repo z2α)) ({ p_0 with was := z1 }), .vec z2α (T_deque_Cell_rep) z1.cells]) (sub_pick [0, 1] rfl rfl) ?_
  refine o_end ?_
  exact den_fallI z2α (res0 rfl ) (fun _ _ _ k => ato_pick [1, 0] rfl rfl k)

theorem window_Since_Step_ok (blk0 : Nat) (off0 : Nat) (val0_0 : Value) (w_0 : T_window_Since) (a_1 : Int) (f_2 : Bool) (g_3 : Bool) : FunOkI Try.prog 37 [⟨.addr, (blk0, off0), true⟩, ⟨Rep.int .i64, a_1, true⟩, ⟨Rep.bool, f_2, true⟩, ⟨Rep.bool, g_3, true⟩] [.vec val0_0 (T_deque_Cell_rep) w_0.span.was.cells, .obj true blk0 off0 (.dat (T_window_Since_repo val0_0)) w_0] (window_Since_Step w_0 a_1 f_2 g_3) (Rep.bool) (fun (α : Value) (y : (Bool × T_window_Since)) => y.1) (fun α y => [.vec α (T_deque_Cell_rep) y.2.span.was.cells, .obj true blk0 off0 (.dat (T_window_Since_repo α)) y.2]) := by
  refine fun_okI Try.func37 rfl Try.ntmps37 rfl (all_cons rfl (all_cons rfl (all_cons rfl (all_cons rfl all_nil)))) (fun w0 ok0 M => ?_)
  refine den_seq ?_
  refine den_region rfl ?_
  refine o_assign rfl rfl guard_none look_bool (fun _ => rfl) ?_
  refine o_end ?_
  refine den_seq ?_
  refine den_seq ?_
  refine den_region rfl ?_
  refine o_move rfl rfl guard_none (look_tmp rfl) (fun _ => rfl) ?_
  refine o_peql Try.underlying69 rfl rfl guard_none (look_tmp rfl) (fun _ => rfl) ?_
  refine o_move rfl rfl guard_none (look_tmp rfl) (fun _ => rfl) ?_
  refine o_move rfl rfl (guard_some rfl rfl rfl) (look_tmp rfl) (fun _ => rfl) ?_
  refine o_nilc rfl rfl (guard_some rfl rfl rfl) (look_tmp rfl) (fun h => h) ?_
  refine o_faddr field80_0 type77 (by decide) rfl rfl (guard_some rfl rfl rfl) (look_tmp rfl) (fun h => h) ?_
  refine o_faddr field77_3 type4 (by decide) rfl rfl (guard_some rfl rfl rfl) (look_tmp rfl) (fun h => h) ?_
  refine o_oloadi 1 rfl type4 (foc_in (T_window_Since_foco0 val0_0) (T_window_span_foco3 val0_0)) rfl (guard_some rfl rfl rfl) (look_tmp rfl) (fun h => h) ?_
  refine o_not rfl rfl (guard_some rfl rfl rfl) (look_tmp rfl) (fun h => h) ?_
  refine o_pick rfl rfl guard_none (look_tmp rfl) look_bool (look_tmp rfl) (fun _ => rfl) (fun _ _ => rfl) (fun h1 h2 => pick_f ((fun _ => rfl) h1) h2) ?_
  refine o_end ?_
  refine den_cond (look_tmp rfl) ?_ ?_
  · refine den_seq ?_
    refine den_region rfl ?_
    refine o_assign rfl rfl guard_none look_bool (fun _ => rfl) ?_
    refine o_end ?_
    refine den_code_ret ?_
    refine dene_ret ?_
    exact dene_resI val0_0 (res1 rfl (rv_tmp rfl)) (fun _ _ _ k => ato_pick [0, 1] rfl rfl k)
  · refine den_skip ?_
    refine den_seq ?_
    refine den_region rfl ?_
    refine o_move rfl rfl guard_none (look_tmp rfl) (fun _ => rfl) ?_
    refine o_nilc rfl rfl guard_none (look_tmp rfl) (fun _ => rfl) ?_
    refine o_faddr field80_0 type77 (by decide) rfl rfl guard_none (look_tmp rfl) (fun _ => rfl) ?_
    refine o_move rfl rfl guard_none (look_tmp rfl) (fun _ => rfl) ?_
    refine o_weak (H' := [.obj true blk0 off0 (.dat (T_window_Since_repo val0_0)) w_0, .vec val0_0 (T_deque_Cell_rep) w_0.span.was.cells]) (sub_pick [1, 0] rfl rfl) ?_
    refine o_weak (sub_part (R' := (T_window_Since_repo val0_0)) (S' := (T_window_span_repo val0_0)) (T_window_Since_focw0 val0_0 val0_0) rfl) ?_
    refine o_weak (H' := [.obj true blk0 (off0 + 0) (.dat (T_window_span_repo val0_0)) w_0.span, .hole true blk0 off0 0 ((T_window_span_repo val0_0)).size (T_window_Since_repo val0_0) w_0, .vec val0_0 (T_deque_Cell_rep) w_0.span.was.cells]) (sub_pick [0, 1, 2] rfl rfl) ?_
    refine o_weak (H' := [.vec val0_0 (T_deque_Cell_rep) w_0.span.was.cells, .obj true blk0 (off0 + 0) (.dat (T_window_span_repo val0_0)) w_0.span] ++ ([] ++ [.hole true blk0 off0 0 ((T_window_span_repo val0_0)).size (T_window_Since_repo val0_0) w_0])) (sub_pick [2, 0, 1] rfl rfl) ?_
    refine o_callU rfl rfl rfl rfl rfl callable54 (looks_cons (look_tmp rfl) (fun _ => rfl) (looks_cons (look_tmp rfl) (fun _ => rfl) (looks_nil))) .nil (window_span_moment_ok _ _ _ w_0.span a_1) (fun _ _ => (wr_v (wr_c wr_n))) (fun z2α z1 => ?_)
    refine o_weak (H' := [.vec z2α (T_deque_Cell_rep) z1.was.cells, .obj true blk0 (off0 + 0) (.dat (T_window_span_repo z2α)) z1, .hole true blk0 off0 0 ((T_window_span_repo val0_0)).size (T_window_Since_repo val0_0) w_0]) (sub_pick [0, 1, 2] rfl rfl) ?_
    refine o_weak (H' := [.obj true blk0 (off0 + 0) (.dat (T_window_span_repo z2α)) z1, .hole true blk0 off0 0 ((T_window_span_repo val0_0)).size (T_window_Since_repo val0_0) w_0, .vec z2α (T_deque_Cell_rep) z1.was.cells]) (sub_pick [1, 2, 0] rfl rfl) ?_
    refine o_weak (sub_whole (T_window_Since_focw0 val0_0 z2α)) ?_
    refine o_weak (H' := [.obj true blk0 off0 (.dat (T_window_Since_repo z2α)) ({ w_0 with span := z1 }), .vec z2α (T_deque_Cell_rep) z1.was.cells]) (sub_pick [0, 1] rfl rfl) ?_
    refine o_end ?_
    refine den_seq ?_
    refine den_seq ?_
    refine den_region rfl ?_
    refine o_move rfl rfl guard_none (look_tmp rfl) (fun _ => rfl) ?_
    refine o_not rfl rfl guard_none (look_tmp rfl) (fun _ => rfl) ?_
    refine o_end ?_
    refine den_cond (look_tmp rfl) ?_ ?_
    · refine den_region rfl ?_
      refine o_move rfl rfl guard_none (look_tmp rfl) (fun _ => rfl) ?_
      refine o_nilc rfl rfl guard_none (look_tmp rfl) (fun _ => rfl) ?_
      refine o_faddr field80_0 type77 (by decide) rfl rfl guard_none (look_tmp rfl) (fun _ => rfl) ?_
      refine o_weak (sub_part (R' := (T_window_Since_repo z2α)) (S' := (T_window_span_repo z2α)) (T_window_Since_focw0 z2α z2α) rfl) ?_
      refine o_weak (H' := [.obj true blk0 (off0 + 0) (.dat (T_window_span_repo z2α)) z1, .hole true blk0 off0 0 ((T_window_span_repo z2α)).size (T_window_Since_repo z2α) ({ w_0 with span := z1 }), .vec z2α (T_deque_Cell_rep) z1.was.cells]) (sub_pick [0, 1, 2] rfl rfl) ?_
      refine o_weak (H' := [.vec z2α (T_deque_Cell_rep) z1.was.cells, .obj true blk0 (off0 + 0) (.dat (T_window_span_repo z2α)) z1] ++ ([] ++ [.hole true blk0 off0 0 ((T_window_span_repo z2α)).size (T_window_Since_repo z2α) ({ w_0 with span := z1 })])) (sub_pick [2, 0, 1] rfl rfl) ?_
      refine o_callU rfl rfl rfl rfl rfl callable58 (looks_cons (look_tmp rfl) (fun _ => rfl) (looks_nil)) .nil (window_span_forget_ok _ _ _ z1) (fun _ _ => (wr_v (wr_c wr_n))) (fun z5α z4 => ?_)
      refine o_weak (H' := [.vec z5α (T_deque_Cell_rep) z4.was.cells, .obj true blk0 (off0 + 0) (.dat (T_window_span_repo z5α)) z4, .hole true blk0 off0 0 ((T_window_span_repo z2α)).size (T_window_Since_repo z2α) ({ w_0 with span := z1 })]) (sub_pick [0, 1, 2] rfl rfl) ?_
      refine o_weak (H' := [.obj true blk0 (off0 + 0) (.dat (T_window_span_repo z5α)) z4, .hole true blk0 off0 0 ((T_window_span_repo z2α)).size (T_window_Since_repo z2α) ({ w_0 with span := z1 }), .vec z5α (T_deque_Cell_rep) z4.was.cells]) (sub_pick [1, 2, 0] rfl rfl) ?_
      refine o_weak (sub_whole (T_window_Since_focw0 z2α z5α)) ?_
      refine o_weak (H' := [.obj true blk0 off0 (.dat (T_window_Since_repo z5α)) ({ w_0 with span := z4 }), .vec z5α (T_deque_Cell_rep) z4.was.cells]) (sub_pick [0, 1] rfl rfl) ?_
      refine o_end ?_
      refine den_seq ?_
      refine den_seq ?_
      refine den_region rfl ?_
      refine o_move rfl rfl guard_none (look_tmp rfl) (fun _ => rfl) ?_
      refine o_end ?_
      refine den_cond (look_tmp rfl) ?_ ?_
      · refine den_region rfl ?_
        refine o_move rfl rfl guard_none (look_tmp rfl) (fun _ => rfl) ?_
        refine o_nilc rfl rfl guard_none (look_tmp rfl) (fun _ => rfl) ?_
        refine o_faddr field80_0 type77 (by decide) rfl rfl guard_none (look_tmp rfl) (fun _ => rfl) ?_
        refine o_weak (sub_part (R' := (T_window_Since_repo z5α)) (S' := (T_window_span_repo z5α)) (T_window_Since_focw0 z5α z5α) rfl) ?_
        refine o_weak (H' := [.obj true blk0 (off0 + 0) (.dat (T_window_span_repo z5α)) z4, .hole true blk0 off0 0 ((T_window_span_repo z5α)).size (T_window_Since_repo z5α) ({ w_0 with span := z4 }), .vec z5α (T_deque_Cell_rep) z4.was.cells]) (sub_pick [0, 1, 2] rfl rfl) ?_
        refine o_weak (H' := [.vec z5α (T_deque_Cell_rep) z4.was.cells, .obj true blk0 (off0 + 0) (.dat (T_window_span_repo z5α)) z4] ++ ([] ++ [.hole true blk0 off0 0 ((T_window_span_repo z5α)).size (T_window_Since_repo z5α) ({ w_0 with span := z4 })])) (sub_pick [2, 0, 1] rfl rfl) ?_
        refine o_callU rfl rfl rfl rfl rfl callable55 (looks_cons (look_tmp rfl) (fun _ => rfl) (looks_nil)) .nil (window_span_note_ok _ _ _ z4) (fun _ _ => (wr_v (wr_c wr_n))) (fun z8α z7 => ?_)
        refine o_weak (H' := [.vec z8α (T_deque_Cell_rep) z7.was.cells, .obj true blk0 (off0 + 0) (.dat (T_window_span_repo z8α)) z7, .hole true blk0 off0 0 ((T_window_span_repo z5α)).size (T_window_Since_repo z5α) ({ w_0 with span := z4 })]) (sub_pick [0, 1, 2] rfl rfl) ?_
        refine o_weak (H' := [.obj true blk0 (off0 + 0) (.dat (T_window_span_repo z8α)) z7, .hole true blk0 off0 0 ((T_window_span_repo z5α)).size (T_window_Since_repo z5α) ({ w_0 with span := z4 }), .vec z8α (T_deque_Cell_rep) z7.was.cells]) (sub_pick [1, 2, 0] rfl rfl) ?_
        refine o_weak (sub_whole (T_window_Since_focw0 z5α z8α)) ?_
        refine o_weak (H' := [.obj true blk0 off0 (.dat (T_window_Since_repo z8α)) ({ w_0 with span := z7 }), .vec z8α (T_deque_Cell_rep) z7.was.cells]) (sub_pick [0, 1] rfl rfl) ?_
        refine o_end ?_
        refine den_seq ?_
        refine den_region rfl ?_
        refine o_move rfl rfl guard_none (look_tmp rfl) (fun _ => rfl) ?_
        refine o_nilc rfl rfl guard_none (look_tmp rfl) (fun _ => rfl) ?_
        refine o_faddr field80_0 type77 (by decide) rfl rfl guard_none (look_tmp rfl) (fun _ => rfl) ?_
        refine o_weak (sub_part (R' := (T_window_Since_repo z8α)) (S' := (T_window_span_repo z8α)) (T_window_Since_focw0 z8α z8α) rfl) ?_
        refine o_weak (H' := [.obj true blk0 (off0 + 0) (.dat (T_window_span_repo z8α)) z7, .hole true blk0 off0 0 ((T_window_span_repo z8α)).size (T_window_Since_repo z8α) ({ w_0 with span := z7 }), .vec z8α (T_deque_Cell_rep) z7.was.cells]) (sub_pick [0, 1, 2] rfl rfl) ?_
        refine o_weak (H' := [] ++ ([.vec z8α (T_deque_Cell_rep) z7.was.cells, .obj true blk0 (off0 + 0) (.dat (T_window_span_repo z8α)) z7] ++ [.hole true blk0 off0 0 ((T_window_span_repo z8α)).size (T_window_Since_repo z8α) ({ w_0 with span := z7 })])) (sub_pick [2, 0, 1] rfl rfl) ?_
        refine o_callU rfl rfl rfl rfl rfl callable56 (looks_cons (look_tmp rfl) (fun _ => rfl) (looks_nil)) (.vec (.cons .nil)) (window_span_holds_ok _ _ _ z7) (fun _ _ => wr_n) (fun z11α z10 => ?_)
        refine o_weak (H' := [.vec z8α (T_deque_Cell_rep) z7.was.cells, .obj true blk0 (off0 + 0) (.dat (T_window_span_repo z8α)) z7, .hole true blk0 off0 0 ((T_window_span_repo z8α)).size (T_window_Since_repo z8α) ({ w_0 with span := z7 })]) (sub_pick [0, 1, 2] rfl rfl) ?_
        refine o_weak (H' := [.obj true blk0 (off0 + 0) (.dat (T_window_span_repo z8α)) z7, .hole true blk0 off0 0 ((T_window_span_repo z8α)).size (T_window_Since_repo z8α) ({ w_0 with span := z7 }), .vec z8α (T_deque_Cell_rep) z7.was.cells]) (sub_pick [1, 2, 0] rfl rfl) ?_
        refine o_weak (sub_whole (T_window_Since_focw0 z8α z8α)) ?_
        refine o_weak (H' := [.obj true blk0 off0 (.dat (T_window_Since_repo z8α)) ({ w_0 with span := z7 }), .vec z8α (T_deque_Cell_rep) z7.was.cells]) (sub_pick [0, 1] rfl rfl) ?_
        refine o_assign rfl rfl guard_none (look_tmp rfl) (fun _ => rfl) ?_
        refine o_end ?_
        refine den_code_ret ?_
        exact dene_resI z8α (res1 rfl (rv_tmp rfl)) (fun _ _ _ k => ato_pick [1, 0] rfl rfl k)
      · refine den_skip ?_
        refine den_seq ?_
        refine den_region rfl ?_
        refine o_move rfl rfl guard_none (look_tmp rfl) (fun _ => rfl) ?_
        refine o_nilc rfl rfl guard_none (look_tmp rfl) (fun _ => rfl) ?_
        refine o_faddr field80_0 type77 (by decide) rfl rfl guard_none (look_tmp rfl) (fun _ => rfl) ?_
        refine o_weak (sub_part (R' := (T_window_Since_repo z5α)) (S' := (T_window_span_repo z5α)) (T_window_Since_focw0 z5α z5α) rfl) ?_
        refine o_weak (H' := [.obj true blk0 (off0 + 0) (.dat (T_window_span_repo z5α)) z4, .hole true blk0 off0 0 ((T_window_span_repo z5α)).size (T_window_Since_repo z5α) ({ w_0 with span := z4 }), .vec z5α (T_deque_Cell_rep) z4.was.cells]) (sub_pick [0, 1, 2] rfl rfl) ?_
        refine o_weak (H' := [] ++ ([.vec z5α (T_deque_Cell_rep) z4.was.cells, .obj true blk0 (off0 + 0) (.dat (T_window_span_repo z5α)) z4] ++ [.hole true blk0 off0 0 ((T_window_span_repo z5α)).size (T_window_Since_repo z5α) ({ w_0 with span := z4 })])) (sub_pick [2, 0, 1] rfl rfl) ?_
        refine o_callU rfl rfl rfl rfl rfl callable56 (looks_cons (look_tmp rfl) (fun _ => rfl) (looks_nil)) (.vec (.cons .nil)) (window_span_holds_ok _ _ _ z4) (fun _ _ => wr_n) (fun z13α z12 => ?_)
        refine o_weak (H' := [.vec z5α (T_deque_Cell_rep) z4.was.cells, .obj true blk0 (off0 + 0) (.dat (T_window_span_repo z5α)) z4, .hole true blk0 off0 0 ((T_window_span_repo z5α)).size (T_window_Since_repo z5α) ({ w_0 with span := z4 })]) (sub_pick [0, 1, 2] rfl rfl) ?_
        refine o_weak (H' := [.obj true blk0 (off0 + 0) (.dat (T_window_span_repo z5α)) z4, .hole true blk0 off0 0 ((T_window_span_repo z5α)).size (T_window_Since_repo z5α) ({ w_0 with span := z4 }), .vec z5α (T_deque_Cell_rep) z4.was.cells]) (sub_pick [1, 2, 0] rfl rfl) ?_
        refine o_weak (sub_whole (T_window_Since_focw0 z5α z5α)) ?_
        refine o_weak (H' := [.obj true blk0 off0 (.dat (T_window_Since_repo z5α)) ({ w_0 with span := z4 }), .vec z5α (T_deque_Cell_rep) z4.was.cells]) (sub_pick [0, 1] rfl rfl) ?_
        refine o_assign rfl rfl guard_none (look_tmp rfl) (fun _ => rfl) ?_
        refine o_end ?_
        refine den_code_ret ?_
        exact dene_resI z5α (res1 rfl (rv_tmp rfl)) (fun _ _ _ k => ato_pick [1, 0] rfl rfl k)
    · refine den_skip ?_
      refine den_seq ?_
      refine den_seq ?_
      refine den_region rfl ?_
      refine o_move rfl rfl guard_none (look_tmp rfl) (fun _ => rfl) ?_
      refine o_end ?_
      refine den_cond (look_tmp rfl) ?_ ?_
      · refine den_region rfl ?_
        refine o_move rfl rfl guard_none (look_tmp rfl) (fun _ => rfl) ?_
        refine o_nilc rfl rfl guard_none (look_tmp rfl) (fun _ => rfl) ?_
        refine o_faddr field80_0 type77 (by decide) rfl rfl guard_none (look_tmp rfl) (fun _ => rfl) ?_
        refine o_weak (sub_part (R' := (T_window_Since_repo z2α)) (S' := (T_window_span_repo z2α)) (T_window_Since_focw0 z2α z2α) rfl) ?_
        refine o_weak (H' := [.obj true blk0 (off0 + 0) (.dat (T_window_span_repo z2α)) z1, .hole true blk0 off0 0 ((T_window_span_repo z2α)).size (T_window_Since_repo z2α) ({ w_0 with span := z1 }), .vec z2α (T_deque_Cell_rep) z1.was.cells]) (sub_pick [0, 1, 2] rfl rfl) ?_
        refine o_weak (H' := [.vec z2α (T_deque_Cell_rep) z1.was.cells, .obj true blk0 (off0 + 0) (.dat (T_window_span_repo z2α)) z1] ++ ([] ++ [.hole true blk0 off0 0 ((T_window_span_repo z2α)).size (T_window_Since_repo z2α) ({ w_0 with span := z1 })])) (sub_pick [2, 0, 1] rfl rfl) ?_
        refine o_callU rfl rfl rfl rfl rfl callable55 (looks_cons (look_tmp rfl) (fun _ => rfl) (looks_nil)) .nil (window_span_note_ok _ _ _ z1) (fun _ _ => (wr_v (wr_c wr_n))) (fun z15α z14 => ?_)
        refine o_weak (H' := [.vec z15α (T_deque_Cell_rep) z14.was.cells, .obj true blk0 (off0 + 0) (.dat (T_window_span_repo z15α)) z14, .hole true blk0 off0 0 ((T_window_span_repo z2α)).size (T_window_Since_repo z2α) ({ w_0 with span := z1 })]) (sub_pick [0, 1, 2] rfl rfl) ?_
        refine o_weak (H' := [.obj true blk0 (off0 + 0) (.dat (T_window_span_repo z15α)) z14, .hole true blk0 off0 0 ((T_window_span_repo z2α)).size (T_window_Since_repo z2α) ({ w_0 with span := z1 }), .vec z15α (T_deque_Cell_rep) z14.was.cells]) (sub_pick [1, 2, 0] rfl rfl) ?_
        refine o_weak (sub_whole (T_window_Since_focw0 z2α z15α)) ?_
        refine o_weak (H' := [.obj true blk0 off0 (.dat (T_window_Since_repo z15α)) ({ w_0 with span := z14 }), .vec z15α (T_deque_Cell_rep) z14.was.cells]) (sub_pick [0, 1] rfl rfl) ?_
        refine o_end ?_
        refine den_seq ?_
        refine den_region rfl ?_
        refine o_move rfl rfl guard_none (look_tmp rfl) (fun _ => rfl) ?_
        refine o_nilc rfl rfl guard_none (look_tmp rfl) (fun _ => rfl) ?_
        refine o_faddr field80_0 type77 (by decide) rfl rfl guard_none (look_tmp rfl) (fun _ => rfl) ?_
        refine o_weak (sub_part (R' := (T_window_Since_repo z15α)) (S' := (T_window_span_repo z15α)) (T_window_Since_focw0 z15α z15α) rfl) ?_
        refine o_weak (H' := [.obj true blk0 (off0 + 0) (.dat (T_window_span_repo z15α)) z14, .hole true blk0 off0 0 ((T_window_span_repo z15α)).size (T_window_Since_repo z15α) ({ w_0 with span := z14 }), .vec z15α (T_deque_Cell_rep) z14.was.cells]) (sub_pick [0, 1, 2] rfl rfl) ?_
        refine o_weak (H' := [] ++ ([.vec z15α (T_deque_Cell_rep) z14.was.cells, .obj true blk0 (off0 + 0) (.dat (T_window_span_repo z15α)) z14] ++ [.hole true blk0 off0 0 ((T_window_span_repo z15α)).size (T_window_Since_repo z15α) ({ w_0 with span := z14 })])) (sub_pick [2, 0, 1] rfl rfl) ?_
        refine o_callU rfl rfl rfl rfl rfl callable56 (looks_cons (look_tmp rfl) (fun _ => rfl) (looks_nil)) (.vec (.cons .nil)) (window_span_holds_ok _ _ _ z14) (fun _ _ => wr_n) (fun z18α z17 => ?_)
        refine o_weak (H' := [.vec z15α (T_deque_Cell_rep) z14.was.cells, .obj true blk0 (off0 + 0) (.dat (T_window_span_repo z15α)) z14, .hole true blk0 off0 0 ((T_window_span_repo z15α)).size (T_window_Since_repo z15α) ({ w_0 with span := z14 })]) (sub_pick [0, 1, 2] rfl rfl) ?_
        refine o_weak (H' := [.obj true blk0 (off0 + 0) (.dat (T_window_span_repo z15α)) z14, .hole true blk0 off0 0 ((T_window_span_repo z15α)).size (T_window_Since_repo z15α) ({ w_0 with span := z14 }), .vec z15α (T_deque_Cell_rep) z14.was.cells]) (sub_pick [1, 2, 0] rfl rfl) ?_
        refine o_weak (sub_whole (T_window_Since_focw0 z15α z15α)) ?_
        refine o_weak (H' := [.obj true blk0 off0 (.dat (T_window_Since_repo z15α)) ({ w_0 with span := z14 }), .vec z15α (T_deque_Cell_rep) z14.was.cells]) (sub_pick [0, 1] rfl rfl) ?_
        refine o_assign rfl rfl guard_none (look_tmp rfl) (fun _ => rfl) ?_
        refine o_end ?_
        refine den_code_ret ?_
        exact dene_resI z15α (res1 rfl (rv_tmp rfl)) (fun _ _ _ k => ato_pick [1, 0] rfl rfl k)
      · refine den_skip ?_
        refine den_seq ?_
        refine den_region rfl ?_
        refine o_move rfl rfl guard_none (look_tmp rfl) (fun _ => rfl) ?_
        refine o_nilc rfl rfl guard_none (look_tmp rfl) (fun _ => rfl) ?_
        refine o_faddr field80_0 type77 (by decide) rfl rfl guard_none (look_tmp rfl) (fun _ => rfl) ?_
        refine o_weak (sub_part (R' := (T_window_Since_repo z2α)) (S' := (T_window_span_repo z2α)) (T_window_Since_focw0 z2α z2α) rfl) ?_
        refine o_weak (H' := [.obj true blk0 (off0 + 0) (.dat (T_window_span_repo z2α)) z1, .hole true blk0 off0 0 ((T_window_span_repo z2α)).size (T_window_Since_repo z2α) ({ w_0 with span := z1 }), .vec z2α (T_deque_Cell_rep) z1.was.cells]) (sub_pick [0, 1, 2] rfl rfl) ?_
        refine o_weak (H' := [] ++ ([.vec z2α (T_deque_Cell_rep) z1.was.cells, .obj true blk0 (off0 + 0) (.dat (T_window_span_repo z2α)) z1] ++ [.hole true blk0 off0 0 ((T_window_span_repo z2α)).size (T_window_Since_repo z2α) ({ w_0 with span := z1 })])) (sub_pick [2, 0, 1] rfl rfl) ?_
        refine o_callU rfl rfl rfl rfl rfl callable56 (looks_cons (look_tmp rfl) (fun _ => rfl) (looks_nil)) (.vec (.cons .nil)) (window_span_holds_ok _ _ _ z1) (fun _ _ => wr_n) (fun z20α z19 => ?_)
        refine o_weak (H' := [.vec z2α (T_deque_Cell_rep) z1.was.cells, .obj true blk0 (off0 + 0) (.dat (T_window_span_repo z2α)) z1, .hole true blk0 off0 0 ((T_window_span_repo z2α)).size (T_window_Since_repo z2α) ({ w_0 with span := z1 })]) (sub_pick [0, 1, 2] rfl rfl) ?_
        refine o_weak (H' := [.obj true blk0 (off0 + 0) (.dat (T_window_span_repo z2α)) z1, .hole true blk0 off0 0 ((T_window_span_repo z2α)).size (T_window_Since_repo z2α) ({ w_0 with span := z1 }), .vec z2α (T_deque_Cell_rep) z1.was.cells]) (sub_pick [1, 2, 0] rfl rfl) ?_
        refine o_weak (sub_whole (T_window_Since_focw0 z2α z2α)) ?_
        refine o_weak (H' := [.obj true blk0 off0 (.dat (T_window_Since_repo z2α)) ({ w_0 with span := z1 }), .vec z2α (T_deque_Cell_rep) z1.was.cells]) (sub_pick [0, 1] rfl rfl) ?_
        refine o_assign rfl rfl guard_none (look_tmp rfl) (fun _ => rfl) ?_
        refine o_end ?_
        refine den_code_ret ?_
        exact dene_resI z2α (res1 rfl (rv_tmp rfl)) (fun _ _ _ k => ato_pick [1, 0] rfl rfl k)

theorem window_Since_Cells_ok (blk0 : Nat) (off0 : Nat) (val0_0 : Value) (w_0 : T_window_Since) : FunOkI Try.prog 38 [⟨.addr, (blk0, off0), true⟩] [.rvec val0_0 (T_deque_Cell_rep) w_0.span.was.cells, .obj false blk0 off0 (.dat (T_window_Since_repo val0_0)) w_0] (window_Since_Cells w_0) (Rep.int .i64) (fun (α : Unit) (y : Int) => y) (fun α y => []) := by
  refine fun_okI Try.func38 rfl Try.ntmps38 rfl (all_cons rfl all_nil) (fun w0 ok0 M => ?_)
  refine den_seq ?_
  refine den_region rfl ?_
  refine o_assign rfl rfl guard_none (look_int rfl) (fun _ => rfl) ?_
  refine o_end ?_
  refine den_seq ?_
  refine den_seq ?_
  refine den_region rfl ?_
  refine o_move rfl rfl guard_none (look_tmp rfl) (fun _ => rfl) ?_
  refine o_peql Try.underlying69 rfl rfl guard_none (look_tmp rfl) (fun _ => rfl) ?_
  refine o_end ?_
  refine den_condf (look_tmp rfl) ?_
  refine den_skip ?_
  refine den_seq ?_
  refine den_region rfl ?_
  refine o_move rfl rfl guard_none (look_tmp rfl) (fun _ => rfl) ?_
  refine o_nilc rfl rfl guard_none (look_tmp rfl) (fun _ => rfl) ?_
  refine o_faddr field80_0 type77 (by decide) rfl rfl guard_none (look_tmp rfl) (fun _ => rfl) ?_
  refine o_weak (H' := [.obj false blk0 off0 (.dat (T_window_Since_repo val0_0)) w_0, .rvec val0_0 (T_deque_Cell_rep) w_0.span.was.cells]) (sub_pick [1, 0] rfl rfl) ?_
  refine o_weak (sub_part (R' := (T_window_Since_repo val0_0)) (S' := (T_window_span_repo val0_0)) (T_window_Since_focw0 val0_0 val0_0) rfl) ?_
  refine o_weak (H' := [.obj false blk0 (off0 + 0) (.dat (T_window_span_repo val0_0)) w_0.span, .hole false blk0 off0 0 ((T_window_span_repo val0_0)).size (T_window_Since_repo val0_0) w_0, .rvec val0_0 (T_deque_Cell_rep) w_0.span.was.cells]) (sub_pick [0, 1, 2] rfl rfl) ?_
  refine o_weak (H' := [] ++ ([.rvec val0_0 (T_deque_Cell_rep) w_0.span.was.cells, .obj false blk0 (off0 + 0) (.dat (T_window_span_repo val0_0)) w_0.span] ++ [.hole false blk0 off0 0 ((T_window_span_repo val0_0)).size (T_window_Since_repo val0_0) w_0])) (sub_pick [2, 0, 1] rfl rfl) ?_
  refine o_callU rfl rfl rfl rfl rfl callable57 (looks_cons (look_tmp rfl) (fun _ => rfl) (looks_nil)) (.rvec (.cons .nil)) (window_span_remembered_ok _ _ _ w_0.span) (fun _ _ => wr_n) (fun z2α z1 => ?_)
  refine o_weak (H' := [.rvec val0_0 (T_deque_Cell_rep) w_0.span.was.cells, .obj false blk0 (off0 + 0) (.dat (T_window_span_repo val0_0)) w_0.span, .hole false blk0 off0 0 ((T_window_span_repo val0_0)).size (T_window_Since_repo val0_0) w_0]) (sub_pick [0, 1, 2] rfl rfl) ?_
  refine o_weak (H' := [.obj false blk0 (off0 + 0) (.dat (T_window_span_repo val0_0)) w_0.span, .hole false blk0 off0 0 ((T_window_span_repo val0_0)).size (T_window_Since_repo val0_0) w_0, .rvec val0_0 (T_deque_Cell_rep) w_0.span.was.cells]) (sub_pick [1, 2, 0] rfl rfl) ?_
  refine o_weak (sub_whole (T_window_Since_focw0 val0_0 val0_0)) ?_
  refine o_weak (H' := [.obj false blk0 off0 (.dat (T_window_Since_repo val0_0)) w_0, .rvec val0_0 (T_deque_Cell_rep) w_0.span.was.cells]) (sub_pick [0, 1] rfl rfl) ?_
  refine o_assign rfl rfl guard_none (look_tmp rfl) (fun _ => rfl) ?_
  refine o_end ?_
  refine den_code_ret ?_
  exact dene_resI () (res1 rfl (rv_tmp rfl)) (fun _ _ _ k => ato_pick [] rfl rfl k)

theorem law16_alive_ok   : FunOk Try.prog 28 [] (law16_alive) (Rep.bool) := by
  refine fun_ok Try.func28 rfl Try.ntmps28 rfl all_nil (fun w0 ok0 => ?_)
  refine den_seq ?_
  refine den_region rfl ?_
  refine o_assign rfl rfl guard_none look_bool (fun _ => rfl) ?_
  refine o_end ?_
  refine den_seq ?_
  refine den_region rfl ?_
  refine o_weak (H' := [] ++ ([] ++ [])) (sub_pick [] rfl rfl) ?_
  refine o_callU rfl rfl rfl rfl rfl callable32 (looks_cons (look_int rfl) (fun _ => rfl) (looks_cons (look_int rfl) (fun _ => rfl) (looks_nil))) .nil (window_NewOnce_ok 0 5) (fun _ _ => (wr_v (wr_c wr_n))) (fun z2α z1 => ?_)
  obtain ⟨⟨z3, z4⟩, z5⟩ := z2α
  refine o_weak (H' := [.vec z5 (T_deque_Cell_rep) z1.span.was.cells, .obj true z3 z4 (.dat (T_window_Once_repo z5)) z1]) (sub_pick [0, 1] rfl rfl) ?_
  refine o_weak (H' := [] ++ ([] ++ [.vec z5 (T_deque_Cell_rep) z1.span.was.cells, .obj true z3 z4 (.dat (T_window_Once_repo z5)) z1])) (sub_pick [0, 1] rfl rfl) ?_
  refine o_callU rfl rfl rfl rfl rfl callable36 (looks_cons (look_int rfl) (fun _ => rfl) (looks_cons (look_int rfl) (fun _ => rfl) (looks_nil))) .nil (window_NewSince_ok 0 (-1)) (fun _ _ => (wr_v (wr_c wr_n))) (fun z7α z6 => ?_)
  obtain ⟨⟨z8, z9⟩, z10⟩ := z7α
  refine o_weak (H' := [.vec z10 (T_deque_Cell_rep) z6.span.was.cells, .obj true z8 z9 (.dat (T_window_Since_repo z10)) z6, .vec z5 (T_deque_Cell_rep) z1.span.was.cells, .obj true z3 z4 (.dat (T_window_Once_repo z5)) z1]) (sub_pick [0, 1, 2, 3] rfl rfl) ?_
  refine o_assign rfl rfl guard_none (look_tmp rfl) (fun _ => rfl) ?_
  refine o_assign rfl rfl guard_none (look_tmp rfl) (fun _ => rfl) ?_
  refine o_end ?_
  refine den_seq ?_
  refine den_region rfl ?_
  refine o_move rfl rfl guard_none (look_tmp rfl) (fun _ => rfl) ?_
  refine o_weak (H' := [.vec z5 (T_deque_Cell_rep) z1.span.was.cells, .obj true z3 z4 (.dat (T_window_Once_repo z5)) z1] ++ ([] ++ [.vec z10 (T_deque_Cell_rep) z6.span.was.cells, .obj true z8 z9 (.dat (T_window_Since_repo z10)) z6])) (sub_pick [2, 3, 0, 1] rfl rfl) ?_
  refine o_callU rfl rfl rfl rfl rfl callable34 (looks_cons (look_tmp rfl) (fun _ => rfl) (looks_cons (look_int rfl) (fun _ => rfl) (looks_cons look_bool (fun _ => rfl) (looks_nil)))) .nil (window_Once_Step_ok _ _ _ z1 0 true) (fun _ _ => (wr_v (wr_c wr_n))) (fun z12α z11 => ?_)
  refine o_weak (H' := [.vec z12α (T_deque_Cell_rep) z11.2.span.was.cells, .obj true z3 z4 (.dat (T_window_Once_repo z12α)) z11.2, .vec z10 (T_deque_Cell_rep) z6.span.was.cells, .obj true z8 z9 (.dat (T_window_Since_repo z10)) z6]) (sub_pick [0, 1, 2, 3] rfl rfl) ?_
  refine o_move rfl rfl guard_none (look_tmp rfl) (fun _ => rfl) ?_
  refine o_move rfl rfl (guard_some rfl rfl rfl) (look_tmp rfl) (fun _ => rfl) ?_
  refine o_weak (H' := [.vec z12α (T_deque_Cell_rep) z11.2.span.was.cells, .obj true z3 z4 (.dat (T_window_Once_repo z12α)) z11.2] ++ ([] ++ [.vec z10 (T_deque_Cell_rep) z6.span.was.cells, .obj true z8 z9 (.dat (T_window_Since_repo z10)) z6])) (sub_pick [0, 1, 2, 3] rfl rfl) ?_
  refine o_callX (its := [.vec z12α (T_deque_Cell_rep) z11.2.span.was.cells, .obj true z3 z4 (.dat (T_window_Once_repo z12α)) z11.2]) ((false, z11.2) : (Bool × T_window_Once)) z12α rfl rfl rfl rfl (guard_some rfl rfl rfl) callable34 (looks_cons (look_tmp rfl) (fun h => h) (looks_cons (look_int rfl) (fun _ => rfl) (looks_cons look_bool (fun _ => rfl) (looks_nil)))) .nil (window_Once_Step_ok _ _ _ z11.2 5 false) (fun _ _ => (wr_v (wr_c wr_n))) ?_ (fun z15α z14 => ?_)
  · exact fun _ => rfl
  refine o_weak (H' := [.vec z15α (T_deque_Cell_rep) z14.2.span.was.cells, .obj true z3 z4 (.dat (T_window_Once_repo z15α)) z14.2, .vec z10 (T_deque_Cell_rep) z6.span.was.cells, .obj true z8 z9 (.dat (T_window_Since_repo z10)) z6]) (sub_pick [0, 1, 2, 3] rfl rfl) ?_
  refine o_pick rfl rfl guard_none (look_tmp rfl) (look_tmp rfl) look_bool (fun _ => rfl) (fun h1 h2 => pick_t ((fun _ => rfl) h1) h2) (fun _ _ => rfl) ?_
  refine o_move rfl rfl guard_none (look_tmp rfl) (fun _ => rfl) ?_
  refine o_move rfl rfl (guard_some rfl rfl rfl) (look_tmp rfl) (fun _ => rfl) ?_
  refine o_weak (H' := [] ++ ([.vec z15α (T_deque_Cell_rep) z14.2.span.was.cells, .obj true z3 z4 (.dat (T_window_Once_repo z15α)) z14.2] ++ [.vec z10 (T_deque_Cell_rep) z6.span.was.cells, .obj true z8 z9 (.dat (T_window_Since_repo z10)) z6])) (sub_pick [0, 1, 2, 3] rfl rfl) ?_
  refine o_callX (its := []) (0 : Int) () rfl rfl rfl rfl (guard_some rfl rfl rfl) callable35 (looks_cons (look_tmp rfl) (fun h => h) (looks_nil)) (.vec (.cons .nil)) (window_Once_Cells_ok _ _ _ z14.2) (fun _ _ => wr_n) ?_ (fun z18α z17 => ?_)
  · exact fun _ => rfl
  refine o_weak (H' := [.vec z15α (T_deque_Cell_rep) z14.2.span.was.cells, .obj true z3 z4 (.dat (T_window_Once_repo z15α)) z14.2, .vec z10 (T_deque_Cell_rep) z6.span.was.cells, .obj true z8 z9 (.dat (T_window_Since_repo z10)) z6]) (sub_pick [0, 1, 2, 3] rfl rfl) ?_
  refine o_eql rfl rfl (guard_some rfl rfl rfl) (look_tmp rfl) (look_int rfl) (fun h => h) (fun _ => rfl) ?_
  refine o_pick rfl rfl guard_none (look_tmp rfl) (look_tmp rfl) look_bool (fun _ => rfl) (fun h1 h2 => pick_t ((fun _ => rfl) h1) h2) (fun _ _ => rfl) ?_
  refine o_move rfl rfl guard_none (look_tmp rfl) (fun _ => rfl) ?_
  refine o_move rfl rfl (guard_some rfl rfl rfl) (look_tmp rfl) (fun _ => rfl) ?_
  refine o_weak (H' := [.vec z15α (T_deque_Cell_rep) z14.2.span.was.cells, .obj true z3 z4 (.dat (T_window_Once_repo z15α)) z14.2] ++ ([] ++ [.vec z10 (T_deque_Cell_rep) z6.span.was.cells, .obj true z8 z9 (.dat (T_window_Since_repo z10)) z6])) (sub_pick [0, 1, 2, 3] rfl rfl) ?_
  refine o_callX (its := [.vec z15α (T_deque_Cell_rep) z14.2.span.was.cells, .obj true z3 z4 (.dat (T_window_Once_repo z15α)) z14.2]) ((false, z14.2) : (Bool × T_window_Once)) z15α rfl rfl rfl rfl (guard_some rfl rfl rfl) callable34 (looks_cons (look_tmp rfl) (fun h => h) (looks_cons (look_int rfl) (fun _ => rfl) (looks_cons look_bool (fun _ => rfl) (looks_nil)))) .nil (window_Once_Step_ok _ _ _ z14.2 6 false) (fun _ _ => (wr_v (wr_c wr_n))) ?_ (fun z20α z19 => ?_)
  · exact fun _ => rfl
  refine o_weak (H' := [.vec z20α (T_deque_Cell_rep) z19.2.span.was.cells, .obj true z3 z4 (.dat (T_window_Once_repo z20α)) z19.2, .vec z10 (T_deque_Cell_rep) z6.span.was.cells, .obj true z8 z9 (.dat (T_window_Since_repo z10)) z6]) (sub_pick [0, 1, 2, 3] rfl rfl) ?_
  refine o_not rfl rfl (guard_some rfl rfl rfl) (look_tmp rfl) (fun h => h) ?_
  refine o_pick rfl rfl guard_none (look_tmp rfl) (look_tmp rfl) look_bool (fun _ => rfl) (fun h1 h2 => pick_t ((fun _ => rfl) h1) h2) (fun _ _ => rfl) ?_
  refine o_move rfl rfl guard_none (look_tmp rfl) (fun _ => rfl) ?_
  refine o_move rfl rfl (guard_some rfl rfl rfl) (look_tmp rfl) (fun _ => rfl) ?_
  refine o_weak (H' := [.vec z10 (T_deque_Cell_rep) z6.span.was.cells, .obj true z8 z9 (.dat (T_window_Since_repo z10)) z6] ++ ([] ++ [.vec z20α (T_deque_Cell_rep) z19.2.span.was.cells, .obj true z3 z4 (.dat (T_window_Once_repo z20α)) z19.2])) (sub_pick [2, 3, 0, 1] rfl rfl) ?_
  refine o_callX (its := [.vec z10 (T_deque_Cell_rep) z6.span.was.cells, .obj true z8 z9 (.dat (T_window_Since_repo z10)) z6]) ((false, z6) : (Bool × T_window_Since)) z10 rfl rfl rfl rfl (guard_some rfl rfl rfl) callable37 (looks_cons (look_tmp rfl) (fun h => h) (looks_cons (look_int rfl) (fun _ => rfl) (looks_cons look_bool (fun _ => rfl) (looks_cons look_bool (fun _ => rfl) (looks_nil))))) .nil (window_Since_Step_ok _ _ _ z6 0 false true) (fun _ _ => (wr_v (wr_c wr_n))) ?_ (fun z23α z22 => ?_)
  · exact fun _ => rfl
  refine o_weak (H' := [.vec z23α (T_deque_Cell_rep) z22.2.span.was.cells, .obj true z8 z9 (.dat (T_window_Since_repo z23α)) z22.2, .vec z20α (T_deque_Cell_rep) z19.2.span.was.cells, .obj true z3 z4 (.dat (T_window_Once_repo z20α)) z19.2]) (sub_pick [0, 1, 2, 3] rfl rfl) ?_
  refine o_pick rfl rfl guard_none (look_tmp rfl) (look_tmp rfl) look_bool (fun _ => rfl) (fun h1 h2 => pick_t ((fun _ => rfl) h1) h2) (fun _ _ => rfl) ?_
  refine o_move rfl rfl guard_none (look_tmp rfl) (fun _ => rfl) ?_
  refine o_move rfl rfl (guard_some rfl rfl rfl) (look_tmp rfl) (fun _ => rfl) ?_
  refine o_weak (H' := [.vec z23α (T_deque_Cell_rep) z22.2.span.was.cells, .obj true z8 z9 (.dat (T_window_Since_repo z23α)) z22.2] ++ ([] ++ [.vec z20α (T_deque_Cell_rep) z19.2.span.was.cells, .obj true z3 z4 (.dat (T_window_Once_repo z20α)) z19.2])) (sub_pick [0, 1, 2, 3] rfl rfl) ?_
  refine o_callX (its := [.vec z23α (T_deque_Cell_rep) z22.2.span.was.cells, .obj true z8 z9 (.dat (T_window_Since_repo z23α)) z22.2]) ((false, z22.2) : (Bool × T_window_Since)) z23α rfl rfl rfl rfl (guard_some rfl rfl rfl) callable37 (looks_cons (look_tmp rfl) (fun h => h) (looks_cons (look_int rfl) (fun _ => rfl) (looks_cons look_bool (fun _ => rfl) (looks_cons look_bool (fun _ => rfl) (looks_nil))))) .nil (window_Since_Step_ok _ _ _ z22.2 9 true false) (fun _ _ => (wr_v (wr_c wr_n))) ?_ (fun z26α z25 => ?_)
  · exact fun _ => rfl
  refine o_weak (H' := [.vec z26α (T_deque_Cell_rep) z25.2.span.was.cells, .obj true z8 z9 (.dat (T_window_Since_repo z26α)) z25.2, .vec z20α (T_deque_Cell_rep) z19.2.span.was.cells, .obj true z3 z4 (.dat (T_window_Once_repo z20α)) z19.2]) (sub_pick [0, 1, 2, 3] rfl rfl) ?_
  refine o_pick rfl rfl guard_none (look_tmp rfl) (look_tmp rfl) look_bool (fun _ => rfl) (fun h1 h2 => pick_t ((fun _ => rfl) h1) h2) (fun _ _ => rfl) ?_
  refine o_move rfl rfl guard_none (look_tmp rfl) (fun _ => rfl) ?_
  refine o_move rfl rfl (guard_some rfl rfl rfl) (look_tmp rfl) (fun _ => rfl) ?_
  refine o_weak (H' := [] ++ ([.vec z26α (T_deque_Cell_rep) z25.2.span.was.cells, .obj true z8 z9 (.dat (T_window_Since_repo z26α)) z25.2] ++ [.vec z20α (T_deque_Cell_rep) z19.2.span.was.cells, .obj true z3 z4 (.dat (T_window_Once_repo z20α)) z19.2])) (sub_pick [0, 1, 2, 3] rfl rfl) ?_
  refine o_callX (its := []) (0 : Int) () rfl rfl rfl rfl (guard_some rfl rfl rfl) callable38 (looks_cons (look_tmp rfl) (fun h => h) (looks_nil)) (.vec (.cons .nil)) (window_Since_Cells_ok _ _ _ z25.2) (fun _ _ => wr_n) ?_ (fun z29α z28 => ?_)
  · exact fun _ => rfl
  refine o_weak (H' := [.vec z26α (T_deque_Cell_rep) z25.2.span.was.cells, .obj true z8 z9 (.dat (T_window_Since_repo z26α)) z25.2, .vec z20α (T_deque_Cell_rep) z19.2.span.was.cells, .obj true z3 z4 (.dat (T_window_Once_repo z20α)) z19.2]) (sub_pick [0, 1, 2, 3] rfl rfl) ?_
  refine o_eql rfl rfl (guard_some rfl rfl rfl) (look_tmp rfl) (look_int rfl) (fun h => h) (fun _ => rfl) ?_
  refine o_pick rfl rfl guard_none (look_tmp rfl) (look_tmp rfl) look_bool (fun _ => rfl) (fun h1 h2 => pick_t ((fun _ => rfl) h1) h2) (fun _ _ => rfl) ?_
  refine o_move rfl rfl guard_none (look_tmp rfl) (fun _ => rfl) ?_
  refine o_move rfl rfl (guard_some rfl rfl rfl) (look_tmp rfl) (fun _ => rfl) ?_
  refine o_weak (H' := [.vec z26α (T_deque_Cell_rep) z25.2.span.was.cells, .obj true z8 z9 (.dat (T_window_Since_repo z26α)) z25.2] ++ ([] ++ [.vec z20α (T_deque_Cell_rep) z19.2.span.was.cells, .obj true z3 z4 (.dat (T_window_Once_repo z20α)) z19.2])) (sub_pick [0, 1, 2, 3] rfl rfl) ?_
  refine o_callX (its := [.vec z26α (T_deque_Cell_rep) z25.2.span.was.cells, .obj true z8 z9 (.dat (T_window_Since_repo z26α)) z25.2]) ((false, z25.2) : (Bool × T_window_Since)) z26α rfl rfl rfl rfl (guard_some rfl rfl rfl) callable37 (looks_cons (look_tmp rfl) (fun h => h) (looks_cons (look_int rfl) (fun _ => rfl) (looks_cons look_bool (fun _ => rfl) (looks_cons look_bool (fun _ => rfl) (looks_nil))))) .nil (window_Since_Step_ok _ _ _ z25.2 9 false false) (fun _ _ => (wr_v (wr_c wr_n))) ?_ (fun z31α z30 => ?_)
  · exact fun _ => rfl
  refine o_weak (H' := [.vec z31α (T_deque_Cell_rep) z30.2.span.was.cells, .obj true z8 z9 (.dat (T_window_Since_repo z31α)) z30.2, .vec z20α (T_deque_Cell_rep) z19.2.span.was.cells, .obj true z3 z4 (.dat (T_window_Once_repo z20α)) z19.2]) (sub_pick [0, 1, 2, 3] rfl rfl) ?_
  refine o_not rfl rfl (guard_some rfl rfl rfl) (look_tmp rfl) (fun h => h) ?_
  refine o_pick rfl rfl guard_none (look_tmp rfl) (look_tmp rfl) look_bool (fun _ => rfl) (fun h1 h2 => pick_t ((fun _ => rfl) h1) h2) (fun _ _ => rfl) ?_
  refine o_assign rfl rfl guard_none (look_tmp rfl) (fun _ => rfl) ?_
  refine o_lt (fun z33 => ?_)
  refine o_end ?_
  refine den_code_ret ?_
  exact dene_res (res1 rfl (rv_tmp rfl))

theorem law16_few_ok  (l_0 : (List T_law16_Step)) : FunOk Try.prog 29 [⟨(T_law16_Step_rep).slice, l_0, true⟩] (law16_few l_0) ((T_law16_Step_rep).slice) := by
  refine fun_ok Try.func29 rfl Try.ntmps29 rfl (all_cons rfl all_nil) (fun w0 ok0 => ?_)
  refine den_seq ?_
  refine den_region rfl ?_
  refine o_assign rfl rfl guard_none look_nil1 (fun _ => rfl) ?_
  refine o_end ?_
  refine den_seq ?_
  refine den_seq ?_
  refine den_region rfl ?_
  refine o_move rfl rfl guard_none (look_tmp rfl) (fun _ => rfl) ?_
  refine o_llen Try.underlying55 rfl rfl guard_none (look_tmp rfl) (fun _ => rfl) ?_
  refine o_gtr rfl rfl guard_none (look_tmp rfl) (look_int rfl) (fun _ => rfl) (fun _ => rfl) ?_
  refine o_end ?_
  refine den_cond (look_tmp rfl) ?_ ?_
  · refine den_seq ?_
    refine den_region rfl ?_
    refine o_move rfl rfl guard_none (look_tmp rfl) (fun _ => rfl) ?_
    refine o_lsub Try.underlying55 type67 rfl rfl (look_tmp rfl) rfl bnd_none (bnd_some (look_int rfl) (fun _ => rfl)) (fun z1 => ?_)
    refine o_assign rfl rfl guard_none (look_tmp rfl) (fun _ => rfl) ?_
    refine o_end ?_
    refine den_code_ret ?_
    refine dene_ret ?_
    exact dene_res (res1 rfl (rv_tmp rfl))
  · refine den_skip ?_
    refine den_seq ?_
    refine den_region rfl ?_
    refine o_move rfl rfl guard_none (look_tmp rfl) (fun _ => rfl) ?_
    refine o_assign rfl rfl guard_none (look_tmp rfl) (fun _ => rfl) ?_
    refine o_end ?_
    refine den_code_ret ?_
    exact dene_res (res1 rfl (rv_tmp rfl))

theorem law16_times_ok  (l_0 : (List T_law16_Step)) : FunOkI Try.prog 30 [⟨(T_law16_Step_rep).slice, l_0, true⟩] [] (law16_times l_0) (Rep.val1) (fun (α : Value) (y : (List Int)) => α) (fun α y => [.vec α (Rep.int .i64) y]) := by
  refine fun_okI Try.func30 rfl Try.ntmps30 rfl (all_cons rfl all_nil) (fun w0 ok0 M => ?_)
  refine den_seq ?_
  refine den_region rfl ?_
  refine o_assign rfl rfl guard_none look_nil1 (fun _ => rfl) ?_
  refine o_end ?_
  refine den_seq ?_
  refine den_region rfl ?_
  refine o_assign rfl rfl guard_none look_nil1 (fun _ => rfl) ?_
  refine o_end ?_
  refine den_seq ?_
  refine den_region rfl ?_
  refine o_assign rfl rfl guard_none (look_int rfl) (fun _ => rfl) ?_
  refine o_end ?_
  refine den_seq ?_
  refine den_seq ?_
  refine den_region rfl ?_
  refine o_assign rfl rfl guard_none (look_int rfl) (fun _ => rfl) ?_
  refine o_end ?_
  refine den_bindA (A := Value) (fun z1α z1 => [(3, ⟨Rep.val1, z1α, true⟩)]) (fun z1α z1 => [.vec z1α (Rep.int .i64) z1]) ?_ (fun z1α z1 => ?_)
  · refine den_block ?_
    refine den_loopA (A := Value) (law16_times_L1b l_0) (fun z2α z2 => [(4, ⟨Rep.int .i64, z2.1, true⟩), (5, ⟨Rep.int .i64, z2.2.1, true⟩), (0, ⟨(T_law16_Step_rep).slice, l_0, true⟩), (3, ⟨Rep.val1, z2α, true⟩)]) (fun z2α z2 => [.vec z2α (Rep.int .i64) z2.2.2]) (0, 0, ([] : (List Int))) (Value.slice none 0 0) (fun z2α z2 => ?_) ((Sub.trans (sub_nilvec (R := Rep.int .i64) rfl) (sub_env (sube_cons rfl (sube_cons rfl (sube_cons rfl (sube_cons rfl (sube_nil))))))))
    refine den_seq ?_
    refine den_seq ?_
    refine den_region rfl ?_
    refine o_move rfl rfl guard_none (look_tmp rfl) (fun _ => rfl) ?_
    refine o_move rfl rfl guard_none (look_tmp rfl) (fun _ => rfl) ?_
    refine o_llen Try.underlying55 rfl rfl guard_none (look_tmp rfl) (fun _ => rfl) ?_
    refine o_lss rfl rfl guard_none (look_tmp rfl) (look_tmp rfl) (fun _ => rfl) (fun _ => rfl) ?_
    refine o_end ?_
    refine den_cond (look_tmp rfl) ?_ ?_
    · refine den_skip ?_
      refine den_seq ?_
      refine den_block ?_
      refine den_seq ?_
      refine den_region rfl ?_
      refine o_move rfl rfl guard_none (look_tmp rfl) (fun _ => rfl) ?_
      refine o_move rfl rfl guard_none (look_tmp rfl) (fun _ => rfl) ?_
      refine o_move rfl rfl guard_none (look_tmp rfl) (fun _ => rfl) ?_
      refine o_iaddr Try.underlying55 type67 rfl rfl (look_tmp rfl) (look_tmp rfl) rfl rfl (fun z3 => ?_)
      refine o_fptr field67_0 type2 (by decide) T_law16_Step_foc0 rfl rfl guard_none (look_tmp rfl) (fun _ => rfl) ?_
      refine o_load type2 rfl rfl guard_none (look_tmp rfl) (fun _ => rfl) ?_
      refine o_max2 rfl rfl guard_none (look_tmp rfl) (look_tmp rfl) (fun _ => rfl) (fun _ => rfl) ?_
      refine o_assign rfl rfl guard_none (look_tmp rfl) (fun _ => rfl) ?_
      refine o_end ?_
      refine den_region rfl ?_
      refine o_move rfl rfl guard_none (look_tmp rfl) (fun _ => rfl) ?_
      refine o_move rfl rfl guard_none (look_tmp rfl) (fun _ => rfl) ?_
      refine o_bslice Try.underlying57 (info_i info2) (info_z info2) type2 rfl rfl rfl rfl rfl rfl guard_none (looksL_cons (look_tmp rfl) (fun _ => rfl) (looksL_nil)) ?_
      refine o_append Try.underlying57 (info_i info2) (info_z info2) (info_all info2).2.1 rfl (info_all info2).2.2 rfl (look_tmp rfl) rfl (feeds_slice Try.underlying57 rfl (look_tmp rfl) rfl) (fun z5 z4 => ?_)
      refine o_assign rfl rfl guard_none (look_tmp rfl) (fun _ => rfl) ?_
      refine o_end ?_
      refine den_blkend ?_
      refine den_region rfl ?_
      refine o_move rfl rfl guard_none (look_tmp rfl) (fun _ => rfl) ?_
      refine o_add rfl rfl guard_none (look_tmp rfl) (look_int rfl) (fun _ => rfl) (fun _ => rfl) ?_
      refine o_assign rfl rfl guard_none (look_tmp rfl) (fun _ => rfl) ?_
      refine o_end ?_
      refine den_nextA z5 ((sub_env (sube_cons rfl (sube_cons rfl (sube_cons rfl (sube_cons rfl (sube_nil)))))))
    · refine den_code_exit ?_
      refine dene_out rfl ?_
      refine dene_loopA (by simp) ?_
      refine dene_to rfl ?_
      refine den_endA z2α ((sub_env (sube_cons rfl (sube_nil))))
  refine den_seq ?_
  refine den_region rfl ?_
  refine o_move rfl rfl guard_none (look_tmp rfl) (fun _ => rfl) ?_
  refine o_assign rfl rfl guard_none (look_tmp rfl) (fun _ => rfl) ?_
  refine o_end ?_
  refine den_code_ret ?_
  exact dene_resI z1α (res1 rfl (rv_tmp rfl)) (fun _ _ _ k => ato_pick [0] rfl rfl k)

theorem law16_ends_ok  (lo_0 : Int) (hi_1 : Int) : FunOk Try.prog 31 [⟨Rep.int .i64, lo_0, true⟩, ⟨Rep.int .i64, hi_1, true⟩] (law16_ends lo_0 hi_1) (Rep.pair (Rep.int .i64) (Rep.int .i64)) := by
  refine fun_ok Try.func31 rfl Try.ntmps31 rfl (all_cons rfl (all_cons rfl all_nil)) (fun w0 ok0 => ?_)
  refine den_seq ?_
  refine den_region rfl ?_
  refine o_assign rfl rfl guard_none (look_int rfl) (fun _ => rfl) ?_
  refine o_assign rfl rfl guard_none (look_int rfl) (fun _ => rfl) ?_
  refine o_end ?_
  refine den_seq ?_
  refine den_region rfl ?_
  refine o_move rfl rfl guard_none (look_tmp rfl) (fun _ => rfl) ?_
  refine o_max2 rfl rfl guard_none (look_tmp rfl) (look_int rfl) (fun _ => rfl) (fun _ => rfl) ?_
  refine o_assign rfl rfl guard_none (look_tmp rfl) (fun _ => rfl) ?_
  refine o_end ?_
  refine den_seq ?_
  refine den_seq ?_
  refine den_region rfl ?_
  refine o_move rfl rfl guard_none (look_tmp rfl) (fun _ => rfl) ?_
  refine o_neq rfl rfl guard_none (look_tmp rfl) (look_int rfl) (fun _ => rfl) (fun _ => rfl) ?_
  refine o_move rfl rfl guard_none (look_tmp rfl) (fun _ => rfl) ?_
  refine o_move rfl rfl (guard_some rfl rfl rfl) (look_tmp rfl) (fun _ => rfl) ?_
  refine o_move rfl rfl (guard_some rfl rfl rfl) (look_tmp rfl) (fun _ => rfl) ?_
  refine o_lss rfl rfl (guard_some rfl rfl rfl) (look_tmp rfl) (look_tmp rfl) (fun h => h) (fun h => h) ?_
  refine o_pick rfl rfl guard_none (look_tmp rfl) (look_tmp rfl) look_bool (fun _ => rfl) (fun h1 h2 => pick_t ((fun _ => rfl) h1) h2) (fun _ _ => rfl) ?_
  refine o_end ?_
  refine den_cond (look_tmp rfl) ?_ ?_
  · refine den_region rfl ?_
    refine o_move rfl rfl guard_none (look_tmp rfl) (fun _ => rfl) ?_
    refine o_assign rfl rfl guard_none (look_tmp rfl) (fun _ => rfl) ?_
    refine o_end ?_
    refine den_seq ?_
    refine den_region rfl ?_
    refine o_move rfl rfl guard_none (look_tmp rfl) (fun _ => rfl) ?_
    refine o_move rfl rfl guard_none (look_tmp rfl) (fun _ => rfl) ?_
    refine o_assign rfl rfl guard_none (look_tmp rfl) (fun _ => rfl) ?_
    refine o_assign rfl rfl guard_none (look_tmp rfl) (fun _ => rfl) ?_
    refine o_end ?_
    refine den_code_ret ?_
    exact dene_res (res2 rfl (rv_tmp rfl) (rv_tmp rfl))
  · refine den_skip ?_
    refine den_seq ?_
    refine den_region rfl ?_
    refine o_move rfl rfl guard_none (look_tmp rfl) (fun _ => rfl) ?_
    refine o_move rfl rfl guard_none (look_tmp rfl) (fun _ => rfl) ?_
    refine o_assign rfl rfl guard_none (look_tmp rfl) (fun _ => rfl) ?_
    refine o_assign rfl rfl guard_none (look_tmp rfl) (fun _ => rfl) ?_
    refine o_end ?_
    refine den_code_ret ?_
    exact dene_res (res2 rfl (rv_tmp rfl) (rv_tmp rfl))

theorem law16_counts_ok  (l_0 : (List T_law16_Step)) (i_1 : Int) (j_2 : Int) (since_3 : Bool) : FunOk Try.prog 53 [⟨(T_law16_Step_rep).slice, l_0, true⟩, ⟨Rep.int .i64, i_1, true⟩, ⟨Rep.int .i64, j_2, true⟩, ⟨Rep.bool, since_3, true⟩] (law16_counts l_0 i_1 j_2 since_3) (Rep.bool) := by
  refine fun_ok Try.func53 rfl Try.ntmps53 rfl (all_cons rfl (all_cons rfl (all_cons rfl (all_cons rfl all_nil)))) (fun w0 ok0 => ?_)
  refine den_seq ?_
  refine den_region rfl ?_
  refine o_assign rfl rfl guard_none look_bool (fun _ => rfl) ?_
  refine o_end ?_
  refine den_seq ?_
  refine den_seq ?_
  refine den_region rfl ?_
  refine o_move rfl rfl guard_none (look_tmp rfl) (fun _ => rfl) ?_
  refine o_not rfl rfl guard_none (look_tmp rfl) (fun _ => rfl) ?_
  refine o_end ?_
  refine den_cond (look_tmp rfl) ?_ ?_
  · refine den_seq ?_
    refine den_region rfl ?_
    refine o_move rfl rfl guard_none (look_tmp rfl) (fun _ => rfl) ?_
    refine o_move rfl rfl guard_none (look_tmp rfl) (fun _ => rfl) ?_
    refine o_iaddr Try.underlying55 type67 rfl rfl (look_tmp rfl) (look_tmp rfl) rfl rfl (fun z1 => ?_)
    refine o_fptr field67_1 type4 (by decide) T_law16_Step_foc1 rfl rfl guard_none (look_tmp rfl) (fun _ => rfl) ?_
    refine o_load type4 rfl rfl guard_none (look_tmp rfl) (fun _ => rfl) ?_
    refine o_assign rfl rfl guard_none (look_tmp rfl) (fun _ => rfl) ?_
    refine o_end ?_
    refine den_code_ret ?_
    refine dene_ret ?_
    exact dene_res (res1 rfl (rv_tmp rfl))
  · refine den_skip ?_
    refine den_seq ?_
    refine den_seq ?_
    refine den_region rfl ?_
    refine o_move rfl rfl guard_none (look_tmp rfl) (fun _ => rfl) ?_
    refine o_add rfl rfl guard_none (look_tmp rfl) (look_int rfl) (fun _ => rfl) (fun _ => rfl) ?_
    refine o_assign rfl rfl guard_none (look_tmp rfl) (fun _ => rfl) ?_
    refine o_end ?_
    refine den_both (fun z2 => [(0, ⟨(T_law16_Step_rep).slice, l_0, true⟩), (2, ⟨Rep.int .i64, j_2, true⟩)]) (fun z2 => []) ?_ (fun z2 => ?_)
    · refine den_block ?_
      refine den_loop (law16_counts_L1b l_0 i_1) (fun z4 => [(9, ⟨Rep.int .i64, z4, true⟩), (0, ⟨(T_law16_Step_rep).slice, l_0, true⟩), (1, ⟨Rep.int .i64, i_1, true⟩), (2, ⟨Rep.int .i64, j_2, true⟩)]) (fun z4 => []) (IntKind.i64.wrap (j_2 + 1)) (fun z4 => ?_) ((sub_env (sube_cons rfl (sube_cons rfl (sube_cons rfl (sube_cons rfl (sube_nil)))))))
      refine den_seq ?_
      refine den_seq ?_
      refine den_region rfl ?_
      refine o_move rfl rfl guard_none (look_tmp rfl) (fun _ => rfl) ?_
      refine o_move rfl rfl guard_none (look_tmp rfl) (fun _ => rfl) ?_
      refine o_leq rfl rfl guard_none (look_tmp rfl) (look_tmp rfl) (fun _ => rfl) (fun _ => rfl) ?_
      refine o_end ?_
      refine den_cond (look_tmp rfl) ?_ ?_
      · refine den_skip ?_
        refine den_seq ?_
        refine den_block ?_
        refine den_seq ?_
        refine den_region rfl ?_
        refine o_move rfl rfl guard_none (look_tmp rfl) (fun _ => rfl) ?_
        refine o_move rfl rfl guard_none (look_tmp rfl) (fun _ => rfl) ?_
        refine o_iaddr Try.underlying55 type67 rfl rfl (look_tmp rfl) (look_tmp rfl) rfl rfl (fun z5 => ?_)
        refine o_fptr field67_1 type4 (by decide) T_law16_Step_foc1 rfl rfl guard_none (look_tmp rfl) (fun _ => rfl) ?_
        refine o_load type4 rfl rfl guard_none (look_tmp rfl) (fun _ => rfl) ?_
        refine o_not rfl rfl guard_none (look_tmp rfl) (fun _ => rfl) ?_
        refine o_end ?_
        refine den_cond (look_tmp rfl) ?_ ?_
        · refine den_seq ?_
          refine den_region rfl ?_
          refine o_assign rfl rfl guard_none look_bool (fun _ => rfl) ?_
          refine o_end ?_
          refine den_code_ret ?_
          refine dene_ret ?_
          refine dene_loop (by simp) ?_
          refine dene_ret ?_
          refine dene_both (by simp) ?_
          refine dene_ret ?_
          exact dene_res (res1 rfl (rv_tmp rfl))
        · refine den_skip ?_
          refine den_blkend ?_
          refine den_region rfl ?_
          refine o_move rfl rfl guard_none (look_tmp rfl) (fun _ => rfl) ?_
          refine o_add rfl rfl guard_none (look_tmp rfl) (look_int rfl) (fun _ => rfl) (fun _ => rfl) ?_
          refine o_assign rfl rfl guard_none (look_tmp rfl) (fun _ => rfl) ?_
          refine o_end ?_
          refine den_next ((sub_env (sube_cons rfl (sube_cons rfl (sube_cons rfl (sube_cons rfl (sube_nil)))))))
      · refine den_code_exit ?_
        refine dene_out rfl ?_
        refine dene_loop (by simp) ?_
        refine dene_to rfl ?_
        refine den_endl ((sub_env (sube_cons rfl (sube_cons rfl (sube_nil)))))
    refine den_seq ?_
    refine den_region rfl ?_
    refine o_move rfl rfl guard_none (look_tmp rfl) (fun _ => rfl) ?_
    refine o_move rfl rfl guard_none (look_tmp rfl) (fun _ => rfl) ?_
    refine o_iaddr Try.underlying55 type67 rfl rfl (look_tmp rfl) (look_tmp rfl) rfl rfl (fun z3 => ?_)
    refine o_fptr field67_2 type4 (by decide) T_law16_Step_foc2 rfl rfl guard_none (look_tmp rfl) (fun _ => rfl) ?_
    refine o_load type4 rfl rfl guard_none (look_tmp rfl) (fun _ => rfl) ?_
    refine o_assign rfl rfl guard_none (look_tmp rfl) (fun _ => rfl) ?_
    refine o_end ?_
    refine den_code_ret ?_
    exact dene_res (res1 rfl (rv_tmp rfl))

theorem law16_told_ok  (l_0 : (List T_law16_Step)) (a_1 : (List Int)) (i_2 : Int) (lo_3 : Int) (hi_4 : Int) (since_5 : Bool) : FunOk Try.prog 33 [⟨(T_law16_Step_rep).slice, l_0, true⟩, ⟨(Rep.int .i64).slice, a_1, true⟩, ⟨Rep.int .i64, i_2, true⟩, ⟨Rep.int .i64, lo_3, true⟩, ⟨Rep.int .i64, hi_4, true⟩, ⟨Rep.bool, since_5, true⟩] (law16_told l_0 a_1 i_2 lo_3 hi_4 since_5) (Rep.pair (Rep.bool) (Rep.int .i64)) := by
  refine fun_ok Try.func33 rfl Try.ntmps33 rfl (all_cons rfl (all_cons rfl (all_cons rfl (all_cons rfl (all_cons rfl (all_cons rfl all_nil)))))) (fun w0 ok0 => ?_)
  refine den_seq ?_
  refine den_region rfl ?_
  refine o_assign rfl rfl guard_none look_bool (fun _ => rfl) ?_
  refine o_assign rfl rfl guard_none (look_int rfl) (fun _ => rfl) ?_
  refine o_end ?_
  refine den_seq ?_
  refine den_region rfl ?_
  refine o_assign rfl rfl guard_none look_bool (fun _ => rfl) ?_
  refine o_assign rfl rfl guard_none (look_int rfl) (fun _ => rfl) ?_
  refine o_assign rfl rfl guard_none (look_int rfl) (fun _ => rfl) ?_
  refine o_end ?_
  refine den_seq ?_
  refine den_seq ?_
  refine den_region rfl ?_
  refine o_assign rfl rfl guard_none (look_int rfl) (fun _ => rfl) ?_
  refine o_end ?_
  refine den_bind (fun z1 => [(14, ⟨Rep.bool, z1.1, true⟩), (15, ⟨Rep.int .i64, z1.2, true⟩)]) (fun z1 => []) ?_ (fun z1 => ?_)
  · refine den_block ?_
    refine den_loop (law16_told_L1b l_0 a_1 i_2 lo_3 hi_4 since_5) (fun z2 => [(14, ⟨Rep.bool, z2.1, true⟩), (15, ⟨Rep.int .i64, z2.2.1, true⟩), (16, ⟨Rep.int .i64, z2.2.2.1, true⟩), (17, ⟨Rep.int .i64, z2.2.2.2, true⟩), (0, ⟨(T_law16_Step_rep).slice, l_0, true⟩), (1, ⟨(Rep.int .i64).slice, a_1, true⟩), (2, ⟨Rep.int .i64, i_2, true⟩), (3, ⟨Rep.int .i64, lo_3, true⟩), (4, ⟨Rep.int .i64, hi_4, true⟩), (5, ⟨Rep.bool, since_5, true⟩)]) (fun z2 => []) (false, 0, (-1), 0) (fun z2 => ?_) ((sub_env (sube_cons rfl (sube_cons rfl (sube_cons rfl (sube_cons rfl (sube_cons rfl (sube_cons rfl (sube_cons rfl (sube_cons rfl (sube_cons rfl (sube_cons rfl (sube_nil)))))))))))))
    refine den_seq ?_
    refine den_seq ?_
    refine den_region rfl ?_
    refine o_move rfl rfl guard_none (look_tmp rfl) (fun _ => rfl) ?_
    refine o_move rfl rfl guard_none (look_tmp rfl) (fun _ => rfl) ?_
    refine o_leq rfl rfl guard_none (look_tmp rfl) (look_tmp rfl) (fun _ => rfl) (fun _ => rfl) ?_
    refine o_end ?_
    refine den_cond (look_tmp rfl) ?_ ?_
    · refine den_skip ?_
      refine den_seq ?_
      refine den_block ?_
      refine den_seq ?_
      refine den_open (fun z3 h_z3 => ?_)
      refine den_open (fun z4 h_z4 => ?_)
      refine den_draw [(24, ⟨(Rep.int .i64).slice, a_1, true⟩), (25, ⟨Rep.int .i64, i_2, true⟩), (26, ⟨(Rep.int .i64).ptrTo, z3, true⟩), (27, ⟨Rep.int .i64, z3, true⟩), (28, ⟨(Rep.int .i64).slice, a_1, true⟩), (29, ⟨Rep.int .i64, z2.2.2.2, true⟩), (30, ⟨(Rep.int .i64).ptrTo, z4, true⟩), (31, ⟨Rep.int .i64, z4, true⟩), (32, ⟨Rep.int .i64, IntKind.i64.wrap (z3 - z4), true⟩), (18, ⟨Rep.int .i64, IntKind.i64.wrap (z3 - z4), true⟩)] mixed rfl rfl ⟨?_, ?_, ?_, ?_, ?_, ?_, ?_, ?_, ?_, ?_, trivial⟩ ?_
      · intro S hc hk hp
        refine o_move rfl rfl guard_none (look_o rfl rfl) (fun _ => rfl) ?_
        exact d_end rfl rfl rfl
      · intro S hc hk hp
        refine o_move rfl rfl guard_none (look_o rfl rfl) (fun _ => rfl) ?_
        exact d_end rfl rfl rfl
      · intro S hc hk hp
        refine o_from (bind_eqO h_z3) ?_
        refine o_iaddr Try.underlying57 type2 rfl rfl (look_d rfl rfl (pr hp 0 rfl rfl)) (look_d rfl rfl (pr hp 1 rfl rfl)) rfl rfl (o_eqO ?_)
        exact d_end rfl rfl rfl
      · intro S hc hk hp
        refine o_load type2 rfl rfl guard_none (look_d rfl rfl (pr hp 0 rfl rfl)) (fun _ => rfl) ?_
        exact d_end rfl rfl rfl
      · intro S hc hk hp
        refine o_move rfl rfl guard_none (look_o rfl rfl) (fun _ => rfl) ?_
        exact d_end rfl rfl rfl
      · intro S hc hk hp
        refine o_move rfl rfl guard_none (look_o rfl rfl) (fun _ => rfl) ?_
        exact d_end rfl rfl rfl
      · intro S hc hk hp
        refine o_from (bind_eqO h_z4) ?_
        refine o_iaddr Try.underlying57 type2 rfl rfl (look_d rfl rfl (pr hp 0 rfl rfl)) (look_d rfl rfl (pr hp 1 rfl rfl)) rfl rfl (o_eqO ?_)
        exact d_end rfl rfl rfl
      · intro S hc hk hp
        refine o_load type2 rfl rfl guard_none (look_d rfl rfl (pr hp 0 rfl rfl)) (fun _ => rfl) ?_
        exact d_end rfl rfl rfl
      · intro S hc hk hp
        refine o_sub rfl rfl guard_none (look_d rfl rfl (pr hp 0 rfl rfl)) (look_d rfl rfl (pr hp 1 rfl rfl)) (fun _ => rfl) (fun _ => rfl) ?_
        exact d_end rfl rfl rfl
      · intro S hc hk hp
        refine o_assign rfl rfl guard_none (look_d rfl rfl (pr hp 0 rfl rfl)) (fun _ => rfl) ?_
        exact d_end rfl rfl rfl
      refine den_seq ?_
      refine den_seq ?_
      refine den_region rfl ?_
      refine o_move rfl rfl guard_none (look_tmp rfl) (fun _ => rfl) ?_
      refine o_move rfl rfl guard_none (look_tmp rfl) (fun _ => rfl) ?_
      refine o_move rfl rfl guard_none (look_tmp rfl) (fun _ => rfl) ?_
      refine o_move rfl rfl guard_none (look_tmp rfl) (fun _ => rfl) ?_
      refine o_call rfl rfl rfl callable53 (looks_cons (look_tmp rfl) (fun _ => rfl) (looks_cons (look_tmp rfl) (fun _ => rfl) (looks_cons (look_tmp rfl) (fun _ => rfl) (looks_cons (look_tmp rfl) (fun _ => rfl) (looks_nil))))) (law16_counts_ok _ _ _ _) (fun z5 => ?_)
      refine o_not rfl rfl guard_none (look_tmp rfl) (fun _ => rfl) ?_
      refine o_move rfl rfl guard_none (look_tmp rfl) (fun _ => rfl) ?_
      refine o_move rfl rfl (guard_some rfl rfl rfl) (look_tmp rfl) (fun _ => rfl) ?_
      refine o_neq rfl rfl (guard_some rfl rfl rfl) (look_tmp rfl) (look_int rfl) (fun h => h) (fun _ => rfl) ?_
      refine o_move rfl rfl (guard_some rfl rfl rfl) (look_tmp rfl) (fun h => h) ?_
      refine o_move rfl rfl (guard_some rfl rfl rfl) (look_tmp rfl) (fun _ => rfl) ?_
      refine o_move rfl rfl (guard_some rfl rfl rfl) (look_tmp rfl) (fun _ => rfl) ?_
      refine o_gtr rfl rfl (guard_some rfl rfl rfl) (look_tmp rfl) (look_tmp rfl) (fun h => h) (fun h => h) ?_
      refine o_pick rfl rfl (guard_some rfl rfl rfl) (look_tmp rfl) (look_tmp rfl) look_bool (fun h => h) (fun h1 h2 => pick_t ((fun h => h) h1) h2) (fun _ _ => rfl) ?_
      refine o_pick rfl rfl guard_none (look_tmp rfl) look_bool (look_tmp rfl) (fun _ => rfl) (fun _ _ => rfl) (fun h1 h2 => pick_f ((fun _ => rfl) h1) h2) ?_
      refine o_end ?_
      refine den_cond (look_tmp rfl) ?_ ?_
      · refine den_code_exit ?_
        refine dene_to rfl ?_
        refine den_region rfl ?_
        refine o_move rfl rfl guard_none (look_tmp rfl) (fun _ => rfl) ?_
        refine o_add rfl rfl guard_none (look_tmp rfl) (look_int rfl) (fun _ => rfl) (fun _ => rfl) ?_
        refine o_assign rfl rfl guard_none (look_tmp rfl) (fun _ => rfl) ?_
        refine o_end ?_
        refine den_next ((sub_env (sube_cons rfl (sube_cons rfl (sube_cons rfl (sube_cons rfl (sube_cons rfl (sube_cons rfl (sube_cons rfl (sube_cons rfl (sube_cons rfl (sube_cons rfl (sube_nil)))))))))))))
      · refine den_skip ?_
        refine den_seq ?_
        refine den_region rfl ?_
        refine o_move rfl rfl guard_none (look_tmp rfl) (fun _ => rfl) ?_
        refine o_move rfl rfl guard_none (look_tmp rfl) (fun _ => rfl) ?_
        refine o_move rfl rfl (guard_some rfl rfl rfl) (look_tmp rfl) (fun _ => rfl) ?_
        refine o_move rfl rfl (guard_some rfl rfl rfl) (look_tmp rfl) (fun _ => rfl) ?_
        refine o_geq rfl rfl (guard_some rfl rfl rfl) (look_tmp rfl) (look_tmp rfl) (fun h => h) (fun h => h) ?_
        refine o_pick rfl rfl guard_none (look_tmp rfl) look_bool (look_tmp rfl) (fun _ => rfl) (fun _ _ => rfl) (fun h1 h2 => pick_f ((fun _ => rfl) h1) h2) ?_
        refine o_assign rfl rfl guard_none (look_tmp rfl) (fun _ => rfl) ?_
        refine o_lt (fun is6 => ?_)
        refine o_end ?_
        refine den_seq ?_
        refine den_region rfl ?_
        refine o_move rfl rfl guard_none (look_tmp rfl) (fun _ => rfl) ?_
        refine o_move rfl rfl guard_none (look_tmp rfl) (fun _ => rfl) ?_
        refine o_iaddr Try.underlying57 type2 rfl rfl (look_tmp rfl) (look_tmp rfl) rfl rfl (fun z7 => ?_)
        refine o_load type2 rfl rfl guard_none (look_tmp rfl) (fun _ => rfl) ?_
        refine o_move rfl rfl guard_none (look_tmp rfl) (fun _ => rfl) ?_
        refine o_neq rfl rfl guard_none (look_tmp rfl) (look_tmp rfl) (fun _ => rfl) (fun _ => rfl) ?_
        refine o_move rfl rfl guard_none (look_tmp rfl) (fun _ => rfl) ?_
        refine o_move rfl rfl (guard_some rfl rfl rfl) (look_tmp rfl) (fun _ => rfl) ?_
        refine o_neq rfl rfl (guard_some rfl rfl rfl) (look_tmp rfl) (look_int rfl) (fun h => h) (fun _ => rfl) ?_
        refine o_move rfl rfl (guard_some rfl rfl rfl) (look_tmp rfl) (fun h => h) ?_
        refine o_move rfl rfl (guard_some rfl rfl rfl) (look_tmp rfl) (fun _ => rfl) ?_
        refine o_eql rfl rfl (guard_some rfl rfl rfl) (look_tmp rfl) (look_int rfl) (fun h => h) (fun _ => rfl) ?_
        refine o_pick rfl rfl (guard_some rfl rfl rfl) (look_tmp rfl) look_bool (look_tmp rfl) (fun h => h) (fun _ _ => rfl) (fun h1 h2 => pick_f ((fun h => h) h1) h2) ?_
        refine o_pick rfl rfl guard_none (look_tmp rfl) (look_tmp rfl) look_bool (fun _ => rfl) (fun h1 h2 => pick_t ((fun _ => rfl) h1) h2) (fun _ _ => rfl) ?_
        refine o_end ?_
        refine den_cond (look_tmp rfl) ?_ ?_
        · refine den_seq ?_
          refine den_region rfl ?_
          refine o_move rfl rfl guard_none (look_tmp rfl) (fun _ => rfl) ?_
          refine o_add rfl rfl guard_none (look_tmp rfl) (look_int rfl) (fun _ => rfl) (fun _ => rfl) ?_
          refine o_assign rfl rfl guard_none (look_tmp rfl) (fun _ => rfl) ?_
          refine o_end ?_
          refine den_region rfl ?_
          refine o_move rfl rfl guard_none (look_tmp rfl) (fun _ => rfl) ?_
          refine o_move rfl rfl guard_none (look_tmp rfl) (fun _ => rfl) ?_
          refine o_iaddr Try.underlying57 type2 rfl rfl (look_tmp rfl) (look_tmp rfl) rfl rfl (fun z8 => ?_)
          refine o_load type2 rfl rfl guard_none (look_tmp rfl) (fun _ => rfl) ?_
          refine o_assign rfl rfl guard_none (look_tmp rfl) (fun _ => rfl) ?_
          refine o_end ?_
          refine den_blkend ?_
          refine den_region rfl ?_
          refine o_move rfl rfl guard_none (look_tmp rfl) (fun _ => rfl) ?_
          refine o_add rfl rfl guard_none (look_tmp rfl) (look_int rfl) (fun _ => rfl) (fun _ => rfl) ?_
          refine o_assign rfl rfl guard_none (look_tmp rfl) (fun _ => rfl) ?_
          refine o_end ?_
          refine den_next ((sub_env (sube_cons rfl (sube_cons rfl (sube_cons rfl (sube_cons rfl (sube_cons rfl (sube_cons rfl (sube_cons rfl (sube_cons rfl (sube_cons rfl (sube_cons rfl (sube_nil)))))))))))))
        · refine den_skip ?_
          refine den_blkend ?_
          refine den_region rfl ?_
          refine o_move rfl rfl guard_none (look_tmp rfl) (fun _ => rfl) ?_
          refine o_add rfl rfl guard_none (look_tmp rfl) (look_int rfl) (fun _ => rfl) (fun _ => rfl) ?_
          refine o_assign rfl rfl guard_none (look_tmp rfl) (fun _ => rfl) ?_
          refine o_end ?_
          refine den_next ((sub_env (sube_cons rfl (sube_cons rfl (sube_cons rfl (sube_cons rfl (sube_cons rfl (sube_cons rfl (sube_cons rfl (sube_cons rfl (sube_cons rfl (sube_cons rfl (sube_nil)))))))))))))
    · refine den_code_exit ?_
      refine dene_out rfl ?_
      refine dene_loop (by simp) ?_
      refine dene_to rfl ?_
      refine den_end ((sub_env (sube_cons rfl (sube_cons rfl (sube_nil)))))
  refine den_seq ?_
  refine den_region rfl ?_
  refine o_move rfl rfl guard_none (look_tmp rfl) (fun _ => rfl) ?_
  refine o_move rfl rfl guard_none (look_tmp rfl) (fun _ => rfl) ?_
  refine o_assign rfl rfl guard_none (look_tmp rfl) (fun _ => rfl) ?_
  refine o_assign rfl rfl guard_none (look_tmp rfl) (fun _ => rfl) ?_
  refine o_end ?_
  refine den_code_ret ?_
  exact dene_res (res2 rfl (rv_tmp rfl) (rv_tmp rfl))

theorem law16_WindowOnce_ok  (lo_0 : Int) (hi_1 : Int) (l_2 : (List T_law16_Step)) : FunOk Try.prog 9 [⟨Rep.int .i64, lo_0, true⟩, ⟨Rep.int .i64, hi_1, true⟩, ⟨(T_law16_Step_rep).slice, l_2, true⟩] (law16_WindowOnce lo_0 hi_1 l_2) (Rep.bool) := by
  refine fun_ok Try.func9 rfl Try.ntmps9 rfl (all_cons rfl (all_cons rfl (all_cons rfl all_nil))) (fun w0 ok0 => ?_)
  refine den_seq ?_
  refine den_region rfl ?_
  refine o_assign rfl rfl guard_none look_bool (fun _ => rfl) ?_
  refine o_end ?_
  refine den_seq ?_
  refine den_seq ?_
  refine den_region rfl ?_
  refine o_call rfl rfl rfl callable28 (looks_nil) (law16_alive_ok) (fun z1 => ?_)
  refine o_not rfl rfl guard_none (look_tmp rfl) (fun _ => rfl) ?_
  refine o_end ?_
  refine den_cond (look_tmp rfl) ?_ ?_
  · refine den_seq ?_
    refine den_region rfl ?_
    refine o_assign rfl rfl guard_none look_bool (fun _ => rfl) ?_
    refine o_end ?_
    refine den_code_ret ?_
    refine dene_ret ?_
    exact dene_res (res1 rfl (rv_tmp rfl))
  · refine den_skip ?_
    refine den_seq ?_
    refine den_region rfl ?_
    refine o_move rfl rfl guard_none (look_tmp rfl) (fun _ => rfl) ?_
    refine o_call rfl rfl rfl callable29 (looks_cons (look_tmp rfl) (fun _ => rfl) (looks_nil)) (law16_few_ok _) (fun z2 => ?_)
    refine o_assign rfl rfl guard_none (look_tmp rfl) (fun _ => rfl) ?_
    refine o_end ?_
    refine den_seq ?_
    refine den_region rfl ?_
    refine o_move rfl rfl guard_none (look_tmp rfl) (fun _ => rfl) ?_
    refine o_weak (H' := [] ++ ([] ++ [])) (sub_pick [] rfl rfl) ?_
    refine o_callU rfl rfl rfl rfl rfl callable30 (looks_cons (look_tmp rfl) (fun _ => rfl) (looks_nil)) .nil (law16_times_ok z2) (fun _ _ => (wr_v wr_n)) (fun z4α z3 => ?_)
    refine o_weak (H' := [.vec z4α (Rep.int .i64) z3]) (sub_pick [0] rfl rfl) ?_
    refine o_assign rfl rfl guard_none (look_tmp rfl) (fun _ => rfl) ?_
    refine o_end ?_
    refine den_seq ?_
    refine den_region rfl ?_
    refine o_move rfl rfl guard_none (look_tmp rfl) (fun _ => rfl) ?_
    refine o_move rfl rfl guard_none (look_tmp rfl) (fun _ => rfl) ?_
    refine o_call rfl rfl rfl callable31 (looks_cons (look_tmp rfl) (fun _ => rfl) (looks_cons (look_tmp rfl) (fun _ => rfl) (looks_nil))) (law16_ends_ok _ _) (fun z6 => ?_)
    refine o_move rfl rfl guard_none (look_tmp rfl) (fun _ => rfl) ?_
    refine o_fst rfl rfl guard_none (look_tmp rfl) (fun _ => rfl) ?_
    refine o_snd rfl rfl guard_none (look_tmp rfl) (fun _ => rfl) ?_
    refine o_assign rfl rfl guard_none (look_tmp rfl) (fun _ => rfl) ?_
    refine o_assign rfl rfl guard_none (look_tmp rfl) (fun _ => rfl) ?_
    refine o_end ?_
    refine den_seq ?_
    refine den_region rfl ?_
    refine o_move rfl rfl guard_none (look_tmp rfl) (fun _ => rfl) ?_
    refine o_move rfl rfl guard_none (look_tmp rfl) (fun _ => rfl) ?_
    refine o_weak (H' := [] ++ ([] ++ [.vec z4α (Rep.int .i64) z3])) (sub_pick [0] rfl rfl) ?_
    refine o_callU rfl rfl rfl rfl rfl callable32 (looks_cons (look_tmp rfl) (fun _ => rfl) (looks_cons (look_tmp rfl) (fun _ => rfl) (looks_nil))) .nil (window_NewOnce_ok lo_0 hi_1) (fun _ _ => (wr_v (wr_c wr_n))) (fun z8α z7 => ?_)
    obtain ⟨⟨z9, z10⟩, z11⟩ := z8α
    refine o_weak (H' := [.vec z11 (T_deque_Cell_rep) z7.span.was.cells, .obj true z9 z10 (.dat (T_window_Once_repo z11)) z7, .vec z4α (Rep.int .i64) z3]) (sub_pick [0, 1, 2] rfl rfl) ?_
    refine o_assign rfl rfl guard_none (look_tmp rfl) (fun _ => rfl) ?_
    refine o_end ?_
    refine den_seq ?_
    refine den_seq ?_
    refine den_region rfl ?_
    refine o_assign rfl rfl guard_none (look_int rfl) (fun _ => rfl) ?_
    refine o_end ?_
    refine den_bothA (A := Value) (fun z12α z12 => [(2, ⟨(T_law16_Step_rep).slice, z2, true⟩), (10, ⟨Rep.addr, (z9, z10), true⟩)]) (fun z12α z12 => [.vec z12α (T_deque_Cell_rep) z12.span.was.cells, .obj true z9 z10 (.dat (T_window_Once_repo z12α)) z12]) ?_ (fun z12α z12 => ?_)
    · refine den_block ?_
      refine den_weak (H' := [.vec z4α (Rep.int .i64) z3, .vec z11 (T_deque_Cell_rep) z7.span.was.cells, .obj true z9 z10 (.dat (T_window_Once_repo z11)) z7]) (sub_pick [2, 0, 1] rfl rfl) ?_
      refine den_weak (sub_freeze (s := 7) rfl) ?_
      refine den_loopA (A := Value) (law16_WindowOnce_L1b z2 z3 z6) (fun z16α z16 => [(11, ⟨Rep.int .i64, z16.1, true⟩), (2, ⟨(T_law16_Step_rep).slice, z2, true⟩), (7, ⟨(Rep.int .i64).slice, z3, true⟩), (8, ⟨Rep.int .i64, z6.1, true⟩), (9, ⟨Rep.int .i64, z6.2, true⟩), (10, ⟨Rep.addr, (z9, z10), true⟩)]) (fun z16α z16 => [.vec z16α (T_deque_Cell_rep) z16.2.span.was.cells, .obj true z9 z10 (.dat (T_window_Once_repo z16α)) z16.2]) (0, z7) z11 (fun z16α z16 => ?_) ((sub_env (sube_cons rfl (sube_cons rfl (sube_cons rfl (sube_cons rfl (sube_cons rfl (sube_cons rfl (sube_nil)))))))))
      refine den_seq ?_
      refine den_seq ?_
      refine den_region rfl ?_
      refine o_move rfl rfl guard_none (look_tmp rfl) (fun _ => rfl) ?_
      refine o_move rfl rfl guard_none (look_tmp rfl) (fun _ => rfl) ?_
      refine o_llen Try.underlying55 rfl rfl guard_none (look_tmp rfl) (fun _ => rfl) ?_
      refine o_lss rfl rfl guard_none (look_tmp rfl) (look_tmp rfl) (fun _ => rfl) (fun _ => rfl) ?_
      refine o_end ?_
      refine den_cond (look_tmp rfl) ?_ ?_
      · refine den_skip ?_
        refine den_seq ?_
        refine den_block ?_
        refine den_seq ?_
        refine den_region rfl ?_
        refine o_move rfl rfl guard_none (look_tmp rfl) (fun _ => rfl) ?_
        refine o_move rfl rfl guard_none (look_tmp rfl) (fun _ => rfl) ?_
        refine o_move rfl rfl guard_none (look_tmp rfl) (fun _ => rfl) ?_
        refine o_move rfl rfl guard_none (look_tmp rfl) (fun _ => rfl) ?_
        refine o_move rfl rfl guard_none (look_tmp rfl) (fun _ => rfl) ?_
        refine o_call rfl rfl rfl callable33 (looks_cons (look_tmp rfl) (fun _ => rfl) (looks_cons (look_tmp rfl) (fun _ => rfl) (looks_cons (look_tmp rfl) (fun _ => rfl) (looks_cons (look_tmp rfl) (fun _ => rfl) (looks_cons (look_tmp rfl) (fun _ => rfl) (looks_cons look_bool (fun _ => rfl) (looks_nil))))))) (law16_told_ok _ _ _ _ _ _) (fun z17 => ?_)
        refine o_move rfl rfl guard_none (look_tmp rfl) (fun _ => rfl) ?_
        refine o_fst rfl rfl guard_none (look_tmp rfl) (fun _ => rfl) ?_
        refine o_snd rfl rfl guard_none (look_tmp rfl) (fun _ => rfl) ?_
        refine o_assign rfl rfl guard_none (look_tmp rfl) (fun _ => rfl) ?_
        refine o_assign rfl rfl guard_none (look_tmp rfl) (fun _ => rfl) ?_
        refine o_end ?_
        refine den_seq ?_
        refine den_open (fun z19 h_z19 => ?_)
        refine den_open (fun z20 h_z20 => ?_)
        refine den_open (fun z21 h_z21 => ?_)
        refine den_open (fun z23 h_z23 => ?_)
        have hB : ∀ (z18α : Value) (S : Nat → Bool) (b11 : Bool), S 11 = b11 → (([(cond (S 11) (.gone) (.vec z16α (T_deque_Cell_rep) z16.2.span.was.cells)), (cond (S 11) (.obj true z9 z10 (.dat (T_window_Once_repo z18α)) z21.2) (.obj true z9 z10 (.dat (T_window_Once_repo z16α)) z16.2)), (cond (S 11) (.vec (z18α) (T_deque_Cell_rep) z21.2.span.was.cells) (.gone))] : List Go.Eng.Item)) = ([(cond b11 (.gone) (.vec z16α (T_deque_Cell_rep) z16.2.span.was.cells)), (cond b11 (.obj true z9 z10 (.dat (T_window_Once_repo z18α)) z21.2) (.obj true z9 z10 (.dat (T_window_Once_repo z16α)) z16.2)), (cond b11 (.vec (z18α) (T_deque_Cell_rep) z21.2.span.was.cells) (.gone))] : List Go.Eng.Item) := fun z18α S b11 h11 => by subst h11; rfl
        refine den_weak sub_gone ?_
        refine den_weak (sub_pick (H' := [.vec z16α (T_deque_Cell_rep) z16.2.span.was.cells, .obj true z9 z10 (.dat (T_window_Once_repo z16α)) z16.2, .gone]) [1, 2, 0] rfl rfl) ?_
        refine den_drawA (A := Value) (H' := fun z18α => [.gone, .obj true z9 z10 (.dat (T_window_Once_repo z18α)) z21.2, .vec (z18α) (T_deque_Cell_rep) z21.2.span.was.cells]) (fun z18α => [(44, ⟨Rep.addr, (z9, z10), true⟩), (45, ⟨(T_law16_Step_rep).slice, z2, true⟩), (46, ⟨Rep.int .i64, z16.1, true⟩), (47, ⟨(T_law16_Step_rep).ptrTo, z19, true⟩), (48, ⟨(Rep.int .i64).ptrTo, z19.At, true⟩), (49, ⟨Rep.int .i64, z19.At, true⟩), (50, ⟨(T_law16_Step_rep).slice, z2, true⟩), (51, ⟨Rep.int .i64, z16.1, true⟩), (52, ⟨(T_law16_Step_rep).ptrTo, z20, true⟩), (53, ⟨(Rep.bool).ptrTo, z20.F, true⟩), (54, ⟨Rep.bool, z20.F, true⟩), (55, ⟨Rep.bool, z21.1, true⟩), (56, ⟨Rep.bool, z17.1, true⟩), (57, ⟨Rep.bool, z21.1 != z17.1, true⟩), (58, ⟨Rep.bool, z21.1 != z17.1, true⟩), (59, ⟨Rep.addr, (z9, z10), (true && ((z21.1 != z17.1) == false))⟩), (60, ⟨Rep.int .i64, z23, (true && ((z21.1 != z17.1) == false))⟩), (61, ⟨Rep.int .i64, z17.2, (true && ((z21.1 != z17.1) == false))⟩), (62, ⟨Rep.bool, z23 != z17.2, (true && ((z21.1 != z17.1) == false))⟩), (63, ⟨Rep.bool, cond (z21.1 != z17.1) true (z23 != z17.2), true⟩)]) (fun z18α S => [(cond (S 11) (.gone) (.vec z16α (T_deque_Cell_rep) z16.2.span.was.cells)), (cond (S 11) (.obj true z9 z10 (.dat (T_window_Once_repo z18α)) z21.2) (.obj true z9 z10 (.dat (T_window_Once_repo z16α)) z16.2)), (cond (S 11) (.vec (z18α) (T_deque_Cell_rep) z21.2.span.was.cells) (.gone))]) (Value.slice none 0 0) mixed (fun _ => rfl) rfl rfl (fun z18α S hS => hB z18α S true (hS 11 (by decide))) ⟨?_, ?_, ?_, ?_, ?_, ?_, ?_, ?_, ?_, ?_, ?_, ?_, ?_, ?_, ?_, ?_, ?_, ?_, ?_, ?_, trivial⟩ (fun z18α => ?_)
        · intro z18α S hc hk hp
          have e11 : S 11 = false := (not_yet (j := 11) (q := 0) hc hk rfl rfl rfl rfl)
          refine eq_H (H' := [.vec z16α (T_deque_Cell_rep) z16.2.span.was.cells, .obj true z9 z10 (.dat (T_window_Once_repo z16α)) z16.2, .gone]) (by first | exact hB z18α S false e11 | (have q := hB z18α S false e11; simp only [cond_true, cond_false] at q; exact q)) ?_
          refine o_move rfl rfl guard_none (look_o rfl rfl) (fun _ => rfl) ?_
          apply h_endA (α := z18α) z18α
          · exact (.same (.same (.same (.same (.same (.same (.same (.same (.same (.same (.same (.same (.same (.same (.same (.same (.same (.same (.same (.same .nil))))))))))))))))))))
          · exact rfl
          · exact rfl
          · exact rfl
          · exact hB z18α (fun k => S k || Nat.beq k 0) false (or_f e11 rfl)
        · intro z18α S hc hk hp
          have e11 : S 11 = false := (not_yet (j := 11) (q := 1) hc (not_yet (j := 5) (q := 0) hc (not_yet (j := 4) (q := 0) hc (not_yet (j := 3) (q := 0) hc hk rfl rfl rfl rfl) rfl rfl rfl rfl) rfl rfl rfl rfl) rfl rfl rfl rfl)
          refine eq_H (H' := [.vec z16α (T_deque_Cell_rep) z16.2.span.was.cells, .obj true z9 z10 (.dat (T_window_Once_repo z16α)) z16.2, .gone]) (by first | exact hB z18α S false e11 | (have q := hB z18α S false e11; simp only [cond_true, cond_false] at q; exact q)) ?_
          refine o_move rfl rfl guard_none (look_o rfl rfl) (fun _ => rfl) ?_
          apply h_endA (α := z18α) z18α
          · exact (.same (.same (.same (.same (.same (.same (.same (.same (.same (.same (.same (.same (.same (.same (.same (.same (.same (.same (.same (.same .nil))))))))))))))))))))
          · exact rfl
          · exact rfl
          · exact rfl
          · exact hB z18α (fun k => S k || Nat.beq k 1) false (or_f e11 rfl)
        · intro z18α S hc hk hp
          have e11 : S 11 = false := (not_yet (j := 11) (q := 1) hc (not_yet (j := 5) (q := 0) hc (not_yet (j := 4) (q := 0) hc (not_yet (j := 3) (q := 1) hc hk rfl rfl rfl rfl) rfl rfl rfl rfl) rfl rfl rfl rfl) rfl rfl rfl rfl)
          refine eq_H (H' := [.vec z16α (T_deque_Cell_rep) z16.2.span.was.cells, .obj true z9 z10 (.dat (T_window_Once_repo z16α)) z16.2, .gone]) (by first | exact hB z18α S false e11 | (have q := hB z18α S false e11; simp only [cond_true, cond_false] at q; exact q)) ?_
          refine o_move rfl rfl guard_none (look_o rfl rfl) (fun _ => rfl) ?_
          apply h_endA (α := z18α) z18α
          · exact (.same (.same (.same (.same (.same (.same (.same (.same (.same (.same (.same (.same (.same (.same (.same (.same (.same (.same (.same (.same .nil))))))))))))))))))))
          · exact rfl
          · exact rfl
          · exact rfl
          · exact hB z18α (fun k => S k || Nat.beq k 2) false (or_f e11 rfl)
        · intro z18α S hc hk hp
          have e11 : S 11 = false := (not_yet (j := 11) (q := 1) hc (not_yet (j := 5) (q := 0) hc (not_yet (j := 4) (q := 0) hc hk rfl rfl rfl rfl) rfl rfl rfl rfl) rfl rfl rfl rfl)
          refine eq_H (H' := [.vec z16α (T_deque_Cell_rep) z16.2.span.was.cells, .obj true z9 z10 (.dat (T_window_Once_repo z16α)) z16.2, .gone]) (by first | exact hB z18α S false e11 | (have q := hB z18α S false e11; simp only [cond_true, cond_false] at q; exact q)) ?_
          refine o_from (bind_eqO h_z19) ?_
          refine o_iaddr Try.underlying55 type67 rfl rfl (look_d rfl rfl (pr hp 0 rfl rfl)) (look_d rfl rfl (pr hp 1 rfl rfl)) rfl rfl (o_eqO ?_)
          apply h_endA (α := z18α) z18α
          · exact (.same (.same (.same (.same (.same (.same (.same (.same (.same (.same (.same (.same (.same (.same (.same (.same (.same (.same (.same (.same .nil))))))))))))))))))))
          · exact rfl
          · exact rfl
          · exact rfl
          · exact hB z18α (fun k => S k || Nat.beq k 3) false (or_f e11 rfl)
        · intro z18α S hc hk hp
          have e11 : S 11 = false := (not_yet (j := 11) (q := 1) hc (not_yet (j := 5) (q := 0) hc hk rfl rfl rfl rfl) rfl rfl rfl rfl)
          refine eq_H (H' := [.vec z16α (T_deque_Cell_rep) z16.2.span.was.cells, .obj true z9 z10 (.dat (T_window_Once_repo z16α)) z16.2, .gone]) (by first | exact hB z18α S false e11 | (have q := hB z18α S false e11; simp only [cond_true, cond_false] at q; exact q)) ?_
          refine o_fptr field67_0 type2 (by decide) T_law16_Step_foc0 rfl rfl guard_none (look_d rfl rfl (pr hp 0 rfl rfl)) (fun _ => rfl) ?_
          apply h_endA (α := z18α) z18α
          · exact (.same (.same (.same (.same (.same (.same (.same (.same (.same (.same (.same (.same (.same (.same (.same (.same (.same (.same (.same (.same .nil))))))))))))))))))))
          · exact rfl
          · exact rfl
          · exact rfl
          · exact hB z18α (fun k => S k || Nat.beq k 4) false (or_f e11 rfl)
        · intro z18α S hc hk hp
          have e11 : S 11 = false := (not_yet (j := 11) (q := 1) hc hk rfl rfl rfl rfl)
          refine eq_H (H' := [.vec z16α (T_deque_Cell_rep) z16.2.span.was.cells, .obj true z9 z10 (.dat (T_window_Once_repo z16α)) z16.2, .gone]) (by first | exact hB z18α S false e11 | (have q := hB z18α S false e11; simp only [cond_true, cond_false] at q; exact q)) ?_
          refine o_load type2 rfl rfl guard_none (look_d rfl rfl (pr hp 0 rfl rfl)) (fun _ => rfl) ?_
          apply h_endA (α := z18α) z18α
          · exact (.same (.same (.same (.same (.same (.same (.same (.same (.same (.same (.same (.same (.same (.same (.same (.same (.same (.same (.same (.same .nil))))))))))))))))))))
          · exact rfl
          · exact rfl
          · exact rfl
          · exact hB z18α (fun k => S k || Nat.beq k 5) false (or_f e11 rfl)
        · intro z18α S hc hk hp
          have e11 : S 11 = false := (not_yet (j := 11) (q := 2) hc (not_yet (j := 10) (q := 0) hc (not_yet (j := 9) (q := 0) hc (not_yet (j := 8) (q := 0) hc hk rfl rfl rfl rfl) rfl rfl rfl rfl) rfl rfl rfl rfl) rfl rfl rfl rfl)
          refine eq_H (H' := [.vec z16α (T_deque_Cell_rep) z16.2.span.was.cells, .obj true z9 z10 (.dat (T_window_Once_repo z16α)) z16.2, .gone]) (by first | exact hB z18α S false e11 | (have q := hB z18α S false e11; simp only [cond_true, cond_false] at q; exact q)) ?_
          refine o_move rfl rfl guard_none (look_o rfl rfl) (fun _ => rfl) ?_
          apply h_endA (α := z18α) z18α
          · exact (.same (.same (.same (.same (.same (.same (.same (.same (.same (.same (.same (.same (.same (.same (.same (.same (.same (.same (.same (.same .nil))))))))))))))))))))
          · exact rfl
          · exact rfl
          · exact rfl
          · exact hB z18α (fun k => S k || Nat.beq k 6) false (or_f e11 rfl)
        · intro z18α S hc hk hp
          have e11 : S 11 = false := (not_yet (j := 11) (q := 2) hc (not_yet (j := 10) (q := 0) hc (not_yet (j := 9) (q := 0) hc (not_yet (j := 8) (q := 1) hc hk rfl rfl rfl rfl) rfl rfl rfl rfl) rfl rfl rfl rfl) rfl rfl rfl rfl)
          refine eq_H (H' := [.vec z16α (T_deque_Cell_rep) z16.2.span.was.cells, .obj true z9 z10 (.dat (T_window_Once_repo z16α)) z16.2, .gone]) (by first | exact hB z18α S false e11 | (have q := hB z18α S false e11; simp only [cond_true, cond_false] at q; exact q)) ?_
          refine o_move rfl rfl guard_none (look_o rfl rfl) (fun _ => rfl) ?_
          apply h_endA (α := z18α) z18α
          · exact (.same (.same (.same (.same (.same (.same (.same (.same (.same (.same (.same (.same (.same (.same (.same (.same (.same (.same (.same (.same .nil))))))))))))))))))))
          · exact rfl
          · exact rfl
          · exact rfl
          · exact hB z18α (fun k => S k || Nat.beq k 7) false (or_f e11 rfl)
        · intro z18α S hc hk hp
          have e11 : S 11 = false := (not_yet (j := 11) (q := 2) hc (not_yet (j := 10) (q := 0) hc (not_yet (j := 9) (q := 0) hc hk rfl rfl rfl rfl) rfl rfl rfl rfl) rfl rfl rfl rfl)
          refine eq_H (H' := [.vec z16α (T_deque_Cell_rep) z16.2.span.was.cells, .obj true z9 z10 (.dat (T_window_Once_repo z16α)) z16.2, .gone]) (by first | exact hB z18α S false e11 | (have q := hB z18α S false e11; simp only [cond_true, cond_false] at q; exact q)) ?_
          refine o_from (bind_eqO h_z20) ?_
          refine o_iaddr Try.underlying55 type67 rfl rfl (look_d rfl rfl (pr hp 0 rfl rfl)) (look_d rfl rfl (pr hp 1 rfl rfl)) rfl rfl (o_eqO ?_)
          apply h_endA (α := z18α) z18α
          · exact (.same (.same (.same (.same (.same (.same (.same (.same (.same (.same (.same (.same (.same (.same (.same (.same (.same (.same (.same (.same .nil))))))))))))))))))))
          · exact rfl
          · exact rfl
          · exact rfl
          · exact hB z18α (fun k => S k || Nat.beq k 8) false (or_f e11 rfl)
        · intro z18α S hc hk hp
          have e11 : S 11 = false := (not_yet (j := 11) (q := 2) hc (not_yet (j := 10) (q := 0) hc hk rfl rfl rfl rfl) rfl rfl rfl rfl)
          refine eq_H (H' := [.vec z16α (T_deque_Cell_rep) z16.2.span.was.cells, .obj true z9 z10 (.dat (T_window_Once_repo z16α)) z16.2, .gone]) (by first | exact hB z18α S false e11 | (have q := hB z18α S false e11; simp only [cond_true, cond_false] at q; exact q)) ?_
          refine o_fptr field67_1 type4 (by decide) T_law16_Step_foc1 rfl rfl guard_none (look_d rfl rfl (pr hp 0 rfl rfl)) (fun _ => rfl) ?_
          apply h_endA (α := z18α) z18α
          · exact (.same (.same (.same (.same (.same (.same (.same (.same (.same (.same (.same (.same (.same (.same (.same (.same (.same (.same (.same (.same .nil))))))))))))))))))))
          · exact rfl
          · exact rfl
          · exact rfl
          · exact hB z18α (fun k => S k || Nat.beq k 9) false (or_f e11 rfl)
        · intro z18α S hc hk hp
          have e11 : S 11 = false := (not_yet (j := 11) (q := 2) hc hk rfl rfl rfl rfl)
          refine eq_H (H' := [.vec z16α (T_deque_Cell_rep) z16.2.span.was.cells, .obj true z9 z10 (.dat (T_window_Once_repo z16α)) z16.2, .gone]) (by first | exact hB z18α S false e11 | (have q := hB z18α S false e11; simp only [cond_true, cond_false] at q; exact q)) ?_
          refine o_load type4 rfl rfl guard_none (look_d rfl rfl (pr hp 0 rfl rfl)) (fun _ => rfl) ?_
          apply h_endA (α := z18α) z18α
          · exact (.same (.same (.same (.same (.same (.same (.same (.same (.same (.same (.same (.same (.same (.same (.same (.same (.same (.same (.same (.same .nil))))))))))))))))))))
          · exact rfl
          · exact rfl
          · exact rfl
          · exact hB z18α (fun k => S k || Nat.beq k 10) false (or_f e11 rfl)
        · intro z18α S hc hk hp
          refine eq_H (H' := [.vec z16α (T_deque_Cell_rep) z16.2.span.was.cells, .obj true z9 z10 (.dat (T_window_Once_repo z16α)) z16.2, .gone]) (by first | exact hB z18α S false hk | (have q := hB z18α S false hk; simp only [cond_true, cond_false] at q; exact q)) ?_
          refine o_from (bind_eqO h_z21) ?_
          refine o_weak (H' := [.vec z16α (T_deque_Cell_rep) z16.2.span.was.cells, .obj true z9 z10 (.dat (T_window_Once_repo z16α)) z16.2] ++ ([] ++ [.gone])) (sub_pick [0, 1, 2] rfl rfl) ?_
          refine o_callU rfl rfl rfl rfl rfl callable34 (looks_cons (look_d rfl rfl (pr hp 0 rfl rfl)) (fun _ => rfl) (looks_cons (look_d rfl rfl (pr hp 1 rfl rfl)) (fun _ => rfl) (looks_cons (look_d rfl rfl (pr hp 2 rfl rfl)) (fun _ => rfl) (looks_nil)))) .nil (window_Once_Step_ok _ _ _ z16.2 z19.At z20.F) (fun _ _ => (wr_v (wr_c wr_n))) (fun z22α => o_eqOH ?_)
          refine o_weak (H' := [.vec z22α (T_deque_Cell_rep) z21.2.span.was.cells, .obj true z9 z10 (.dat (T_window_Once_repo z22α)) z21.2, .gone]) (sub_pick [0, 1, 2] rfl rfl) ?_
          refine o_weak sub_gone ?_
          refine o_weak (H' := [.gone, .obj true z9 z10 (.dat (T_window_Once_repo z22α)) z21.2, .vec z22α (T_deque_Cell_rep) z21.2.span.was.cells]) (sub_pick [0, 2, 1] rfl rfl) ?_
          apply h_endA (α := z18α) z22α
          · exact (.same (.same (.same (.same (.same (.same (.same (.same (.same (.same (.same (.same (.same (.same (.same (.same (.same (.same (.same (.same .nil))))))))))))))))))))
          · exact rfl
          · exact rfl
          · exact rfl
          · exact hB z22α (fun k => S k || Nat.beq k 11) true (or_i rfl)
        · intro z18α S hc hk hp
          refine eq_H (H' := [(cond (S 11) (.gone) (.vec z16α (T_deque_Cell_rep) z16.2.span.was.cells)), (cond (S 11) (.obj true z9 z10 (.dat (T_window_Once_repo z18α)) z21.2) (.obj true z9 z10 (.dat (T_window_Once_repo z16α)) z16.2)), (cond (S 11) (.vec (z18α) (T_deque_Cell_rep) z21.2.span.was.cells) (.gone))]) (by first | exact hB z18α S (S 11) rfl | (have q := hB z18α S (S 11) rfl; simp only [cond_true, cond_false] at q; exact q)) ?_
          refine o_move rfl rfl guard_none (look_o rfl rfl) (fun _ => rfl) ?_
          apply h_endA (α := z18α) z18α
          · exact (.same (.same (.same (.same (.same (.same (.same (.same (.same (.same (.same (.same (.same (.same (.same (.same (.same (.same (.same (.same .nil))))))))))))))))))))
          · exact rfl
          · exact rfl
          · exact rfl
          · exact hB z18α (fun k => S k || Nat.beq k 12) (S 11) (or_ne rfl)
        · intro z18α S hc hk hp
          have e11 : S 11 = true := (pr hp 0 rfl rfl)
          refine eq_H (H' := [.gone, .obj true z9 z10 (.dat (T_window_Once_repo z18α)) z21.2, .vec (z18α) (T_deque_Cell_rep) z21.2.span.was.cells]) (by first | exact hB z18α S true e11 | (have q := hB z18α S true e11; simp only [cond_true, cond_false] at q; exact q)) ?_
          refine o_bneq Try.underlying4 rfl rfl guard_none (look_d rfl rfl (pr hp 0 rfl rfl)) (look_d rfl rfl (pr hp 1 rfl rfl)) (fun _ => rfl) (fun _ => rfl) ?_
          apply h_endA (α := z18α) z18α
          · exact (.same (.same (.same (.same (.same (.same (.same (.same (.same (.same (.same (.same (.same (.same (.same (.same (.same (.same (.same (.same .nil))))))))))))))))))))
          · exact rfl
          · exact rfl
          · exact rfl
          · exact hB z18α (fun k => S k || Nat.beq k 13) true (or_t e11)
        · intro z18α S hc hk hp
          have e11 : S 11 = true := (pr hp 1 rfl rfl)
          refine eq_H (H' := [.gone, .obj true z9 z10 (.dat (T_window_Once_repo z18α)) z21.2, .vec (z18α) (T_deque_Cell_rep) z21.2.span.was.cells]) (by first | exact hB z18α S true e11 | (have q := hB z18α S true e11; simp only [cond_true, cond_false] at q; exact q)) ?_
          refine o_move rfl rfl guard_none (look_d rfl rfl (pr hp 0 rfl rfl)) (fun _ => rfl) ?_
          apply h_endA (α := z18α) z18α
          · exact (.same (.same (.same (.same (.same (.same (.same (.same (.same (.same (.same (.same (.same (.same (.same (.same (.same (.same (.same (.same .nil))))))))))))))))))))
          · exact rfl
          · exact rfl
          · exact rfl
          · exact hB z18α (fun k => S k || Nat.beq k 14) true (or_t e11)
        · intro z18α S hc hk hp
          have e11 : S 11 = true := (pr (hc 14 _ rfl (pr hp 0 rfl rfl)) 1 rfl rfl)
          refine eq_H (H' := [.gone, .obj true z9 z10 (.dat (T_window_Once_repo z18α)) z21.2, .vec (z18α) (T_deque_Cell_rep) z21.2.span.was.cells]) (by first | exact hB z18α S true e11 | (have q := hB z18α S true e11; simp only [cond_true, cond_false] at q; exact q)) ?_
          refine o_move rfl rfl (guard_d rfl rfl rfl rfl (pr hp 0 rfl rfl)) (look_o rfl rfl) (fun _ => rfl) ?_
          apply h_endA (α := z18α) z18α
          · exact (.same (.same (.same (.same (.same (.same (.same (.same (.same (.same (.same (.same (.same (.same (.same (.same (.same (.same (.same (.same .nil))))))))))))))))))))
          · exact rfl
          · exact rfl
          · exact rfl
          · exact hB z18α (fun k => S k || Nat.beq k 15) true (or_t e11)
        · intro z18α S hc hk hp
          have e11 : S 11 = true := (pr (hc 14 _ rfl (pr hp 1 rfl rfl)) 1 rfl rfl)
          refine eq_H (H' := [.gone, .obj true z9 z10 (.dat (T_window_Once_repo z18α)) z21.2, .vec (z18α) (T_deque_Cell_rep) z21.2.span.was.cells]) (by first | exact hB z18α S true e11 | (have q := hB z18α S true e11; simp only [cond_true, cond_false] at q; exact q)) ?_
          refine o_from (bind_eqO h_z23) ?_
          refine o_weak (H' := [] ++ ([.vec (z18α) (T_deque_Cell_rep) z21.2.span.was.cells, .obj true z9 z10 (.dat (T_window_Once_repo z18α)) z21.2] ++ [.gone])) (sub_pick [2, 1, 0] rfl rfl) ?_
          refine o_callX (its := []) (0 : Int) () rfl rfl rfl rfl (guard_d rfl rfl rfl rfl (pr hp 1 rfl rfl)) callable35 (looks_cons (look_d rfl rfl (pr hp 0 rfl rfl)) (fun h => h) (looks_nil)) (.vec (.cons .nil)) (window_Once_Cells_ok _ _ _ z21.2) (fun _ _ => wr_n) ?_ (fun z24α => o_eqOH ?_)
          · exact fun _ => rfl
          refine o_weak (H' := [.vec (z18α) (T_deque_Cell_rep) z21.2.span.was.cells, .obj true z9 z10 (.dat (T_window_Once_repo z18α)) z21.2, .gone]) (sub_pick [0, 1, 2] rfl rfl) ?_
          refine o_weak (H' := [.gone, .obj true z9 z10 (.dat (T_window_Once_repo z18α)) z21.2, .vec (z18α) (T_deque_Cell_rep) z21.2.span.was.cells]) (sub_pick [2, 1, 0] rfl rfl) ?_
          apply h_endA (α := z18α) z18α
          · exact (.same (.same (.same (.same (.same (.same (.same (.same (.same (.same (.same (.same (.same (.same (.same (.same (.same (.same (.same (.same .nil))))))))))))))))))))
          · exact rfl
          · exact rfl
          · exact rfl
          · exact hB z18α (fun k => S k || Nat.beq k 16) true (or_t e11)
        · intro z18α S hc hk hp
          have e11 : S 11 = true := (pr (hc 14 _ rfl (pr hp 0 rfl rfl)) 1 rfl rfl)
          refine eq_H (H' := [.gone, .obj true z9 z10 (.dat (T_window_Once_repo z18α)) z21.2, .vec (z18α) (T_deque_Cell_rep) z21.2.span.was.cells]) (by first | exact hB z18α S true e11 | (have q := hB z18α S true e11; simp only [cond_true, cond_false] at q; exact q)) ?_
          refine o_move rfl rfl (guard_d rfl rfl rfl rfl (pr hp 0 rfl rfl)) (look_o rfl rfl) (fun _ => rfl) ?_
          apply h_endA (α := z18α) z18α
          · exact (.same (.same (.same (.same (.same (.same (.same (.same (.same (.same (.same (.same (.same (.same (.same (.same (.same (.same (.same (.same .nil))))))))))))))))))))
          · exact rfl
          · exact rfl
          · exact rfl
          · exact hB z18α (fun k => S k || Nat.beq k 17) true (or_t e11)
        · intro z18α S hc hk hp
          have e11 : S 11 = true := (pr (hc 14 _ rfl (pr hp 2 rfl rfl)) 1 rfl rfl)
          refine eq_H (H' := [.gone, .obj true z9 z10 (.dat (T_window_Once_repo z18α)) z21.2, .vec (z18α) (T_deque_Cell_rep) z21.2.span.was.cells]) (by first | exact hB z18α S true e11 | (have q := hB z18α S true e11; simp only [cond_true, cond_false] at q; exact q)) ?_
          refine o_neq rfl rfl (guard_d rfl rfl rfl rfl (pr hp 2 rfl rfl)) (look_d rfl rfl (pr hp 0 rfl rfl)) (look_d rfl rfl (pr hp 1 rfl rfl)) (fun h => h) (fun h => h) ?_
          apply h_endA (α := z18α) z18α
          · exact (.same (.same (.same (.same (.same (.same (.same (.same (.same (.same (.same (.same (.same (.same (.same (.same (.same (.same (.same (.same .nil))))))))))))))))))))
          · exact rfl
          · exact rfl
          · exact rfl
          · exact hB z18α (fun k => S k || Nat.beq k 18) true (or_t e11)
        · intro z18α S hc hk hp
          have e11 : S 11 = true := (pr (hc 14 _ rfl (pr hp 0 rfl rfl)) 1 rfl rfl)
          refine eq_H (H' := [.gone, .obj true z9 z10 (.dat (T_window_Once_repo z18α)) z21.2, .vec (z18α) (T_deque_Cell_rep) z21.2.span.was.cells]) (by first | exact hB z18α S true e11 | (have q := hB z18α S true e11; simp only [cond_true, cond_false] at q; exact q)) ?_
          refine o_pick rfl rfl guard_none (look_d rfl rfl (pr hp 0 rfl rfl)) look_bool (look_d rfl rfl (pr hp 1 rfl rfl)) (fun _ => rfl) (fun _ _ => rfl) (fun h1 h2 => pick_f ((fun _ => rfl) h1) h2) ?_
          apply h_endA (α := z18α) z18α
          · exact (.same (.same (.same (.same (.same (.same (.same (.same (.same (.same (.same (.same (.same (.same (.same (.same (.same (.same (.same (.same .nil))))))))))))))))))))
          · exact rfl
          · exact rfl
          · exact rfl
          · exact hB z18α (fun k => S k || Nat.beq k 19) true (or_t e11)
        refine den_weak (H' := [.obj true z9 z10 (.dat (T_window_Once_repo z18α)) z21.2, .vec z18α (T_deque_Cell_rep) z21.2.span.was.cells]) (sub_pick [1, 2] rfl rfl) ?_
        refine den_cond (look_tmp rfl) ?_ ?_
        · refine den_seq ?_
          refine den_region rfl ?_
          refine o_assign rfl rfl guard_none look_bool (fun _ => rfl) ?_
          refine o_end ?_
          refine den_code_ret ?_
          refine dene_ret ?_
          refine dene_loopA (by simp) ?_
          refine dene_ret ?_
          refine dene_bothA (by simp) ?_
          refine dene_ret ?_
          exact dene_res (res1 rfl (rv_tmp rfl))
        · refine den_skip ?_
          refine den_blkend ?_
          refine den_region rfl ?_
          refine o_move rfl rfl guard_none (look_tmp rfl) (fun _ => rfl) ?_
          refine o_add rfl rfl guard_none (look_tmp rfl) (look_int rfl) (fun _ => rfl) (fun _ => rfl) ?_
          refine o_assign rfl rfl guard_none (look_tmp rfl) (fun _ => rfl) ?_
          refine o_end ?_
          refine den_nextA z18α ((Sub.trans (sub_pick [1, 0] rfl rfl) (sub_env (sube_cons rfl (sube_cons rfl (sube_cons rfl (sube_cons rfl (sube_cons rfl (sube_cons rfl (sube_nil))))))))))
      · refine den_code_exit ?_
        refine dene_out rfl ?_
        refine dene_loopA (by simp) ?_
        refine dene_to rfl ?_
        refine den_endlA z16α ((sub_env (sube_cons rfl (sube_cons rfl (sube_nil)))))
    refine den_seq ?_
    refine den_region rfl ?_
    refine o_move rfl rfl guard_none (look_tmp rfl) (fun _ => rfl) ?_
    refine o_llen Try.underlying55 rfl rfl guard_none (look_tmp rfl) (fun _ => rfl) ?_
    refine o_gtr rfl rfl guard_none (look_tmp rfl) (look_int rfl) (fun _ => rfl) (fun _ => rfl) ?_
    refine o_move rfl rfl guard_none (look_tmp rfl) (fun _ => rfl) ?_
    refine o_move rfl rfl (guard_some rfl rfl rfl) (look_tmp rfl) (fun _ => rfl) ?_
    refine o_weak (H' := [] ++ ([.vec z12α (T_deque_Cell_rep) z12.span.was.cells, .obj true z9 z10 (.dat (T_window_Once_repo z12α)) z12] ++ [])) (sub_pick [0, 1] rfl rfl) ?_
    refine o_callX (its := []) (0 : Int) () rfl rfl rfl rfl (guard_some rfl rfl rfl) callable35 (looks_cons (look_tmp rfl) (fun h => h) (looks_nil)) (.vec (.cons .nil)) (window_Once_Cells_ok _ _ _ z12) (fun _ _ => wr_n) ?_ (fun z14α z13 => ?_)
    · exact fun _ => rfl
    refine o_weak (H' := [.vec z12α (T_deque_Cell_rep) z12.span.was.cells, .obj true z9 z10 (.dat (T_window_Once_repo z12α)) z12]) (sub_pick [0, 1] rfl rfl) ?_
    refine o_eql rfl rfl (guard_some rfl rfl rfl) (look_tmp rfl) (look_int rfl) (fun h => h) (fun _ => rfl) ?_
    refine o_pick rfl rfl guard_none (look_tmp rfl) look_bool (look_tmp rfl) (fun _ => rfl) (fun _ _ => rfl) (fun h1 h2 => pick_f ((fun _ => rfl) h1) h2) ?_
    refine o_assign rfl rfl guard_none (look_tmp rfl) (fun _ => rfl) ?_
    refine o_lt (fun z15 => ?_)
    refine o_end ?_
    refine den_code_ret ?_
    exact dene_res (res1 rfl (rv_tmp rfl))

end Go.Proofs.Ytlikbfnaihccmaa.M
