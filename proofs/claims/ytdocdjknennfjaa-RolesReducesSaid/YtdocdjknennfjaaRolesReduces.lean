/-
  RolesReduces: for every input the law answers true, and what was handed in reads as it did. No condition.
-/
import Derived.Test.YtdocdjknennfjaaRows
import Derived.Test.YtdocdjknennfjaaOks
import Derived.Test.YtdocdjknennfjaaZc
namespace Go.Proofs.Ytdocdjknennfjaa.rolesReduces
open Go.ChangeShapes Go.WideShapes Go.ChangeAt Go.RowKit Go.Eng Go.Proofs.Ytdocdjknennfjaa.M
set_option linter.unusedVariables false

theorem own : ownKnob Try.prog.godebug = none := by kernel_rfl
theorem laidOut : laidOutB Try.prog = true := by kernel_rfl

theorem opens9 : Opens Try.prog 9 (Rep.str) := op_str Try.underlying9
theorem opens34 : Opens Try.prog 34 (T_roles_Pair_rep) := op_iso (R := T_roles_Pair_rep0) (fun x => ⟨x.1, x.2.1⟩) (fun _ => rfl) (op_struct Try.underlying34 rfl (by kernel_rfl) (opf_cons rfl (by kernel_rfl) opens9 (opf_cons rfl (by kernel_rfl) opens9 opf_nil)))
theorem opens22 : Opens Try.prog 22 ((T_roles_Pair_rep).slice) := op_slice Try.underlying22 (by kernel_rfl) (by decide) opens34

set_option maxRecDepth 100000 in
theorem lifted (os : Os) (started : os.Started) (H : Type) (enc : TypeId × Value → H) :
    ReturnsInHanded {} Try.checked os 6 .any (Rows.rolesReducesSpec.pre6 enc Try.prog Try.f6 Rows.rolesReducesRow.domain false) (Rows.rolesReducesSpec.post enc Try.prog Try.f6 false true false false) := by
  refine returnsInHanded_of_change (C := Try.checked) own started (by kernel_rfl) Try.func6
    (ChangeSpec.witness6 (enc := enc) (C := Try.checked) false ⟨#[], #[.slice none 0 0, .string ByteArray.empty], []⟩ 8 (by kernel_rfl) (by kernel_rfl) (by kernel_rfl) (by kernel_rfl)) ?_
  intro W base args ds gs before hval0 hW hcnd _
  have hval : ∀ (j : Nat) t v, Try.f6.params[j]? = some t → args[j]? = some v → Value.okWide Try.prog W .any base t v := hval0
  have hW' := hW
  obtain ⟨p, q, hA0, hV, rfl, hfz, hnd⟩ := hW
  have hA : DataW.TrodAll enc Try.prog W 0 (fun _ => true) true Try.f6.params.toList args.toList ds p := hA0
  rw [Try.params6] at hA hval
  obtain ⟨v0, vs0, d0, ds0, p0, q0, hargs, rfl, rfl, h0, r0⟩ := trodAll_cons hA
  obtain ⟨v1, vs1, d1, ds1, p1, q1, rfl, rfl, rfl, h1, r1⟩ := trodAll_cons r0
  obtain ⟨rfl, rfl, rfl⟩ := trodAll_nil r1
  obtain rfl : args = #[v0, v1] := by cases args; simp_all
  obtain ⟨rfl, rfl⟩ := trodVars_none hV
  have lt0 : ∀ x ∈ p0, x.block < W.heap.size := by obtain ⟨m, hm⟩ := h0; exact DataW.trod_lt m _ _ _ hm
  obtain ⟨x0, g0⟩ : ∃ x, ((T_roles_Pair_rep).slice).hv (okAll W) W x v0 := opens_one opens22 Try.underlying22 (hval 0 22 v0 rfl rfl) h0
  have lt1 : ∀ x ∈ p1, x.block < W.heap.size := by obtain ⟨m, hm⟩ := h1; exact DataW.trod_lt m _ _ _ hm
  obtain ⟨x1, g1⟩ : ∃ x, (Rep.str).hv (okAll W) W x v1 := opens_str Try.underlying9 (hval 1 9 v1 rfl rfl) h1
  have hc := law31_RolesReduces_ok x0 x1 (okAll W) W [v0, v1] ⟨g0, g1, trivial⟩ (fun b o h => h) true (rreduces_eq x0 x1)
  refine hc.mono fun e W' ⟨ok', v, he, _, _, _, hv, bel0⟩ => ?_
  have bel := bel0.toBelow
  have hb := bool_hv hv
  subst hb; subst he
  exact ⟨_, rfl, _, _, _, [], _, [], hW', trodAll_mk1 (shut_bool Try.underlying4 _), (trodAll_cons_mk (Below.trod laidOut (by kernel_rfl) (of_decide_eq_true (by kernel_rfl)) h0 bel lt0) (trodAll_cons_mk (Below.trod laidOut (by kernel_rfl) (of_decide_eq_true (by kernel_rfl)) h1 bel lt1) trodAll_mk0)), rfl, bel.frame _, fun h => by cases h⟩

/-- THE STATEMENT. -/
theorem proved : Rows.RolesReducesSaid :=
  OpenClaim.holds_of_wide 6 Try.f6 rfl rfl rfl rfl rfl rfl rfl ⟨rfl, rfl, rfl, rfl, rfl⟩ rfl rfl rfl rfl rfl (by kernel_rfl) Try.func6 (by kernel_rfl)
    (of_decide_eq_true (by kernel_rfl)) (by unfold Func.isWrapper; first | (rw [if_pos (by decide +kernel)]; kernel_rfl) | (rw [if_neg (by decide +kernel)]; exact ⟨rfl, rfl⟩))
    (fun os started H enc _ => lifted os started H enc)
#print axioms proved
end Go.Proofs.Ytdocdjknennfjaa.rolesReduces
