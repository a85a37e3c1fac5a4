/-
  WallKeeps: for every input the law answers true, and what was handed in reads as it did. No condition.
-/
import Derived.Test.YtijfebipalhhjaaRows
import Derived.Test.YtijfebipalhhjaaOks
import Derived.Test.YtijfebipalhhjaaWl3
namespace Go.Proofs.Ytijfebipalhhjaa.wallKeeps
open Go.ChangeShapes Go.WideShapes Go.ChangeAt Go.RowKit Go.Eng Go.Proofs.Ytijfebipalhhjaa.M
set_option linter.unusedVariables false

theorem own : ownKnob Try.prog.godebug = none := by kernel_rfl
theorem laidOut : laidOutB Try.prog = true := by kernel_rfl

theorem opens9 : Opens Try.prog 9 (Rep.str) := op_str Try.underlying9
theorem opens107 : Opens Try.prog 107 (T_wall_Owner_rep) := op_iso (R := T_wall_Owner_rep0) (fun x => ⟨x.1, x.2.1⟩) (fun _ => rfl) (op_struct Try.underlying107 rfl (by kernel_rfl) (opf_cons rfl (by kernel_rfl) opens9 (opf_cons rfl (by kernel_rfl) opens9 opf_nil)))
theorem opens58 : Opens Try.prog 58 ((T_wall_Owner_rep).slice) := op_slice Try.underlying58 (by kernel_rfl) (by decide) opens107
theorem opens3 : Opens Try.prog 3 (Rep.int .i64) := op_int Try.underlying3
theorem opens68 : Opens Try.prog 68 (T_law33_Op_rep) := op_iso (R := T_law33_Op_rep0) (fun x => ⟨x.1, x.2.1, x.2.2.1⟩) (fun _ => rfl) (op_struct Try.underlying68 rfl (by kernel_rfl) (opf_cons rfl (by kernel_rfl) opens3 (opf_cons rfl (by kernel_rfl) opens9 (opf_cons rfl (by kernel_rfl) opens9 opf_nil))))
theorem opens59 : Opens Try.prog 59 ((T_law33_Op_rep).slice) := op_slice Try.underlying59 (by kernel_rfl) (by decide) opens68

set_option maxRecDepth 100000 in
theorem lifted (os : Os) (started : os.Started) (H : Type) (enc : TypeId × Value → H) :
    ReturnsInHanded {} Try.checked os 9 .any (Rows.wallKeepsSpec.pre6 enc Try.prog Try.f9 Rows.wallKeepsRow.domain false) (Rows.wallKeepsSpec.post enc Try.prog Try.f9 false true false false) := by
  refine returnsInHanded_of_change (C := Try.checked) own started (by kernel_rfl) Try.func9
    (ChangeSpec.witness6 (enc := enc) (C := Try.checked) false ⟨#[], #[.slice none 0 0, .slice none 0 0, .string ByteArray.empty, .string ByteArray.empty, .string ByteArray.empty, .string ByteArray.empty], []⟩ 8 (by kernel_rfl) (by kernel_rfl) (by kernel_rfl) (by kernel_rfl)) ?_
  intro W base args ds gs before hval0 hW hcnd _
  have hval : ∀ (j : Nat) t v, Try.f9.params[j]? = some t → args[j]? = some v → Value.okWide Try.prog W .any base t v := hval0
  have hW' := hW
  obtain ⟨p, q, hA0, hV, rfl, hfz, hnd⟩ := hW
  have hA : DataW.TrodAll enc Try.prog W 0 (fun _ => true) true Try.f9.params.toList args.toList ds p := hA0
  rw [Try.params9] at hA hval
  obtain ⟨v0, vs0, d0, ds0, p0, q0, hargs, rfl, rfl, h0, r0⟩ := trodAll_cons hA
  obtain ⟨v1, vs1, d1, ds1, p1, q1, rfl, rfl, rfl, h1, r1⟩ := trodAll_cons r0
  obtain ⟨v2, vs2, d2, ds2, p2, q2, rfl, rfl, rfl, h2, r2⟩ := trodAll_cons r1
  obtain ⟨v3, vs3, d3, ds3, p3, q3, rfl, rfl, rfl, h3, r3⟩ := trodAll_cons r2
  obtain ⟨v4, vs4, d4, ds4, p4, q4, rfl, rfl, rfl, h4, r4⟩ := trodAll_cons r3
  obtain ⟨v5, vs5, d5, ds5, p5, q5, rfl, rfl, rfl, h5, r5⟩ := trodAll_cons r4
  obtain ⟨rfl, rfl, rfl⟩ := trodAll_nil r5
  obtain rfl : args = #[v0, v1, v2, v3, v4, v5] := by cases args; simp_all
  obtain ⟨rfl, rfl⟩ := trodVars_none hV
  have lt0 : ∀ x ∈ p0, x.block < W.heap.size := by obtain ⟨m, hm⟩ := h0; exact DataW.trod_lt m _ _ _ hm
  obtain ⟨x0, g0⟩ : ∃ x, ((T_wall_Owner_rep).slice).hv (okAll W) W x v0 := opens_one opens58 Try.underlying58 (hval 0 58 v0 rfl rfl) h0
  have lt1 : ∀ x ∈ p1, x.block < W.heap.size := by obtain ⟨m, hm⟩ := h1; exact DataW.trod_lt m _ _ _ hm
  obtain ⟨x1, g1⟩ : ∃ x, ((T_law33_Op_rep).slice).hv (okAll W) W x v1 := opens_one opens59 Try.underlying59 (hval 1 59 v1 rfl rfl) h1
  have lt2 : ∀ x ∈ p2, x.block < W.heap.size := by obtain ⟨m, hm⟩ := h2; exact DataW.trod_lt m _ _ _ hm
  obtain ⟨x2, g2⟩ : ∃ x, (Rep.str).hv (okAll W) W x v2 := opens_str Try.underlying9 (hval 2 9 v2 rfl rfl) h2
  have lt3 : ∀ x ∈ p3, x.block < W.heap.size := by obtain ⟨m, hm⟩ := h3; exact DataW.trod_lt m _ _ _ hm
  obtain ⟨x3, g3⟩ : ∃ x, (Rep.str).hv (okAll W) W x v3 := opens_str Try.underlying9 (hval 3 9 v3 rfl rfl) h3
  have lt4 : ∀ x ∈ p4, x.block < W.heap.size := by obtain ⟨m, hm⟩ := h4; exact DataW.trod_lt m _ _ _ hm
  obtain ⟨x4, g4⟩ : ∃ x, (Rep.str).hv (okAll W) W x v4 := opens_str Try.underlying9 (hval 4 9 v4 rfl rfl) h4
  have lt5 : ∀ x ∈ p5, x.block < W.heap.size := by obtain ⟨m, hm⟩ := h5; exact DataW.trod_lt m _ _ _ hm
  obtain ⟨x5, g5⟩ : ∃ x, (Rep.str).hv (okAll W) W x v5 := opens_str Try.underlying9 (hval 5 9 v5 rfl rfl) h5
  have hc := law33_WallKeeps_ok x0 x1 x2 x3 x4 x5 (okAll W) W [v0, v1, v2, v3, v4, v5] ⟨g0, g1, g2, g3, g4, g5, trivial⟩ (fun b o h => h) true (wkeeps_eq x0 x1 x2 x3 x4 x5 (list_of g0))
  refine hc.mono fun e W' ⟨ok', v, he, _, _, _, hv, bel⟩ => ?_
  have hb := bool_hv hv
  subst hb; subst he
  exact ⟨_, rfl, _, _, _, [], _, [], hW', trodAll_mk1 (shut_bool Try.underlying4 _), (trodAll_cons_mk (Below.trod laidOut (by kernel_rfl) (of_decide_eq_true (by kernel_rfl)) h0 bel lt0) (trodAll_cons_mk (Below.trod laidOut (by kernel_rfl) (of_decide_eq_true (by kernel_rfl)) h1 bel lt1) (trodAll_cons_mk (Below.trod laidOut (by kernel_rfl) (of_decide_eq_true (by kernel_rfl)) h2 bel lt2) (trodAll_cons_mk (Below.trod laidOut (by kernel_rfl) (of_decide_eq_true (by kernel_rfl)) h3 bel lt3) (trodAll_cons_mk (Below.trod laidOut (by kernel_rfl) (of_decide_eq_true (by kernel_rfl)) h4 bel lt4) (trodAll_cons_mk (Below.trod laidOut (by kernel_rfl) (of_decide_eq_true (by kernel_rfl)) h5 bel lt5) trodAll_mk0)))))), rfl, bel.frame _, fun h => by cases h⟩

/-- THE STATEMENT. -/
theorem proved : Rows.WallKeepsSaid :=
  OpenClaim.holds_of_wide 9 Try.f9 rfl rfl rfl rfl rfl rfl rfl ⟨rfl, rfl, rfl, rfl, rfl⟩ rfl rfl rfl rfl rfl (by kernel_rfl) Try.func9 (by kernel_rfl)
    (of_decide_eq_true (by kernel_rfl)) (by unfold Func.isWrapper; first | (rw [if_pos (by decide +kernel)]; kernel_rfl) | (rw [if_neg (by decide +kernel)]; exact ⟨rfl, rfl⟩))
    (fun os started H enc _ => lifted os started H enc)
#print axioms proved
end Go.Proofs.Ytijfebipalhhjaa.wallKeeps
