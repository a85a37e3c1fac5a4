/-
  QuotaClones: for every input the law answers true, and what was handed in reads as it did. No condition.
-/
import Derived.Test.YtbbjdhmdnggnoaaRows
import Derived.Test.YtbbjdhmdnggnoaaOks
import Derived.Test.YtbbjdhmdnggnoaaQuota3
namespace Go.Proofs.Ytbbjdhmdnggnoaa.quotaClones
open Go.ChangeShapes Go.WideShapes Go.ChangeAt Go.RowKit Go.Eng Go.Proofs.Ytbbjdhmdnggnoaa.M
set_option linter.unusedVariables false

theorem own : ownKnob Try.prog.godebug = none := by kernel_rfl
theorem laidOut : laidOutB Try.prog = true := by kernel_rfl

theorem opens2 : Opens Try.prog 2 (Rep.int .i64) := op_int Try.underlying2
theorem opens3 : Opens Try.prog 3 (Rep.int .i64) := op_int Try.underlying3
theorem opens33 : Opens Try.prog 33 (T_law34_Step_rep) := op_iso (R := T_law34_Step_rep0) (fun x => ⟨x.1, x.2.1, x.2.2.1⟩) (fun _ => rfl) (op_struct Try.underlying33 rfl (by kernel_rfl) (opf_cons rfl (by kernel_rfl) opens3 (opf_cons rfl (by kernel_rfl) opens2 (opf_cons rfl (by kernel_rfl) opens2 opf_nil))))
theorem opens22 : Opens Try.prog 22 ((T_law34_Step_rep).slice) := op_slice Try.underlying22 (by kernel_rfl) (by decide) opens33

set_option maxRecDepth 100000 in
theorem lifted (os : Os) (started : os.Started) (H : Type) (enc : TypeId × Value → H) :
    ReturnsInHanded {} Try.checked os 5 .any (Rows.quotaClonesSpec.pre6 enc Try.prog Try.f5 Rows.quotaClonesRow.domain false) (Rows.quotaClonesSpec.post enc Try.prog Try.f5 false true false false) := by
  refine returnsInHanded_of_change (C := Try.checked) own started (by kernel_rfl) Try.func5
    (ChangeSpec.witness6 (enc := enc) (C := Try.checked) false ⟨#[], #[.int .i64 0, .int .i64 0, .slice none 0 0, .slice none 0 0], []⟩ 8 (by kernel_rfl) (by kernel_rfl) (by kernel_rfl) (by kernel_rfl)) ?_
  intro W base args ds gs before hval0 hW hcnd _
  have hval : ∀ (j : Nat) t v, Try.f5.params[j]? = some t → args[j]? = some v → Value.okWide Try.prog W .any base t v := hval0
  have hW' := hW
  obtain ⟨p, q, hA0, hV, rfl, hfz, hnd⟩ := hW
  have hA : DataW.TrodAll enc Try.prog W 0 (fun _ => true) true Try.f5.params.toList args.toList ds p := hA0
  rw [Try.params5] at hA hval
  obtain ⟨v0, vs0, d0, ds0, p0, q0, hargs, rfl, rfl, h0, r0⟩ := trodAll_cons hA
  obtain ⟨v1, vs1, d1, ds1, p1, q1, rfl, rfl, rfl, h1, r1⟩ := trodAll_cons r0
  obtain ⟨v2, vs2, d2, ds2, p2, q2, rfl, rfl, rfl, h2, r2⟩ := trodAll_cons r1
  obtain ⟨v3, vs3, d3, ds3, p3, q3, rfl, rfl, rfl, h3, r3⟩ := trodAll_cons r2
  obtain ⟨rfl, rfl, rfl⟩ := trodAll_nil r3
  obtain rfl : args = #[v0, v1, v2, v3] := by cases args; simp_all
  obtain ⟨rfl, rfl⟩ := trodVars_none hV
  have lt0 : ∀ x ∈ p0, x.block < W.heap.size := by obtain ⟨m, hm⟩ := h0; exact DataW.trod_lt m _ _ _ hm
  obtain ⟨x0, g0⟩ : ∃ x, (Rep.int .i64).hv (okAll W) W x v0 := opens_int Try.underlying2 (hval 0 2 v0 rfl rfl) h0
  have lt1 : ∀ x ∈ p1, x.block < W.heap.size := by obtain ⟨m, hm⟩ := h1; exact DataW.trod_lt m _ _ _ hm
  obtain ⟨x1, g1⟩ : ∃ x, (Rep.int .i64).hv (okAll W) W x v1 := opens_int Try.underlying2 (hval 1 2 v1 rfl rfl) h1
  have lt2 : ∀ x ∈ p2, x.block < W.heap.size := by obtain ⟨m, hm⟩ := h2; exact DataW.trod_lt m _ _ _ hm
  obtain ⟨x2, g2⟩ : ∃ x, ((T_law34_Step_rep).slice).hv (okAll W) W x v2 := opens_one opens22 Try.underlying22 (hval 2 22 v2 rfl rfl) h2
  have lt3 : ∀ x ∈ p3, x.block < W.heap.size := by obtain ⟨m, hm⟩ := h3; exact DataW.trod_lt m _ _ _ hm
  obtain ⟨x3, g3⟩ : ∃ x, ((T_law34_Step_rep).slice).hv (okAll W) W x v3 := opens_one opens22 Try.underlying22 (hval 3 22 v3 rfl rfl) h3
  have hc := law34_QuotaClones_ok x0 x1 x2 x3 (okAll W) W [v0, v1, v2, v3] ⟨g0, g1, g2, g3, trivial⟩ (fun b o h => h) true (clones_eq x0 x1 x2 x3 (steps_of g2) (steps_of g3))
  refine hc.mono fun e W' ⟨ok', v, he, _, _, _, hv, bel0⟩ => ?_
  have bel := bel0.toBelow
  have hb := bool_hv hv
  subst hb; subst he
  exact ⟨_, rfl, _, _, _, [], _, [], hW', trodAll_mk1 (shut_bool Try.underlying4 _), (trodAll_cons_mk (Below.trod laidOut (by kernel_rfl) (of_decide_eq_true (by kernel_rfl)) h0 bel lt0) (trodAll_cons_mk (Below.trod laidOut (by kernel_rfl) (of_decide_eq_true (by kernel_rfl)) h1 bel lt1) (trodAll_cons_mk (Below.trod laidOut (by kernel_rfl) (of_decide_eq_true (by kernel_rfl)) h2 bel lt2) (trodAll_cons_mk (Below.trod laidOut (by kernel_rfl) (of_decide_eq_true (by kernel_rfl)) h3 bel lt3) trodAll_mk0)))), rfl, bel.frame _, fun h => by cases h⟩

/-- THE STATEMENT. -/
theorem proved : Rows.QuotaClonesSaid :=
  OpenClaim.holds_of_wide 5 Try.f5 rfl rfl rfl rfl rfl rfl rfl ⟨rfl, rfl, rfl, rfl, rfl⟩ rfl rfl rfl rfl rfl (by kernel_rfl) Try.func5 (by kernel_rfl)
    (of_decide_eq_true (by kernel_rfl)) (by unfold Func.isWrapper; first | (rw [if_pos (by decide +kernel)]; kernel_rfl) | (rw [if_neg (by decide +kernel)]; exact ⟨rfl, rfl⟩))
    (fun os started H enc _ => lifted os started H enc)
#print axioms proved
end Go.Proofs.Ytbbjdhmdnggnoaa.quotaClones
