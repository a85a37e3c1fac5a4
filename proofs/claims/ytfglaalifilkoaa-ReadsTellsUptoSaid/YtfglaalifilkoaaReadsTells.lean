/-
  ReadsTells: for every such input the law answers true, and what was handed in reads as it did. Condition: the input (with the package variables read) has a bulk of at most 1048576, as the Upto statement says.
-/
import Derived.Test.YtfglaalifilkoaaRows
import Derived.Test.YtfglaalifilkoaaOks
import Derived.Test.YtfglaalifilkoaaRd2
import Derived.JoinedCond
namespace Go.Proofs.Ytfglaalifilkoaa.readsTells
open Go.ChangeShapes Go.WideShapes Go.ChangeAt Go.RowKit Go.Eng Go.Proofs.Ytfglaalifilkoaa.M
set_option linter.unusedVariables false

theorem own : ownKnob Try.prog.godebug = none := by kernel_rfl
theorem laidOut : laidOutB Try.prog = true := by kernel_rfl

theorem one_le {H : Type} (d : DataW H) : 1 ≤ Rows.uptoBulk d := by
  cases d with
  | lit l => cases l <;> simp [Rows.uptoBulk]
  | nil => simp [Rows.uptoBulk]
  | ptr d => simp [Rows.uptoBulk]
  | slice elems spare => simp [Rows.uptoBulk]
  | agg parts => simp [Rows.uptoBulk]
  | iface t d => simp [Rows.uptoBulk]
  | map entries => simp [Rows.uptoBulk]
  | held h => simp [Rows.uptoBulk]
theorem bulkOk {H : Type} : BulkOk (H := H) Rows.uptoBulk Rows.uptoBulkAll := ⟨one_le, fun _ => by simp [Rows.uptoBulk], fun _ _ => by simp [Rows.uptoBulk], fun _ => by simp [Rows.uptoBulk], by simp [Rows.uptoBulkAll], fun _ _ => by simp [Rows.uptoBulkAll]⟩

theorem opensW2 : ∀ N, OpensW N Try.prog 2 (Rep.int .i64) (fun x => 1) := fun N => opw_int Try.underlying2
theorem opensW9 : ∀ N, OpensW N Try.prog 9 (Rep.str) (fun x => (x.length + 1)) := fun N => opw_str Try.underlying9
theorem opensW3 : ∀ N, OpensW N Try.prog 3 (Rep.int .i64) (fun x => 1) := fun N => opw_int Try.underlying3
theorem opensW24 : ∀ N, OpensW N Try.prog 24 (T_api_Expr_rep) (fun x => T_api_Expr_wt x) := fun N => by
  induction N with
  | zero => exact opw_zero
  | succ N ih => exact opw_eq T_api_Expr_eq (opw_le (opw_iso (R := T_api_Expr_rep0 T_api_Expr_rep) (fun x => ⟨x.1, x.2.1, x.2.2.1, x.2.2.2.1, x.2.2.2.2.1, x.2.2.2.2.2.1⟩) (fun _ => rfl) (opw_struct Try.underlying24 rfl (by kernel_rfl) (opfw_cons rfl (by kernel_rfl) (opensW3 N) (opfw_cons rfl (by kernel_rfl) (opensW9 N) (opfw_cons rfl (by kernel_rfl) (opensW2 N) (opfw_cons rfl (by kernel_rfl) (opensW2 N) (opfw_cons rfl (by kernel_rfl) (opensW2 N) (opfw_cons rfl (by kernel_rfl) (opw_mono (opw_slice Try.underlying22 (by kernel_rfl) (by decide) ih) (Nat.le_succ N)) opfw_nil)))))))) (fun x => Nat.le_of_eq (T_api_Expr_wt_eq x)))
theorem opensW29 : ∀ N, OpensW N Try.prog 29 (T_api_Update_rep) (fun x => ((1 + ((x.Name.length + 1) + (T_api_Expr_wt x.To + 0))) + 1)) := fun N => opw_mono (opw_iso (R := T_api_Update_rep0) (fun x => ⟨x.1, x.2.1, x.2.2.1⟩) (fun _ => rfl) (opw_struct Try.underlying29 rfl (by kernel_rfl) (opfw_cons rfl (by kernel_rfl) (opensW3 N) (opfw_cons rfl (by kernel_rfl) (opensW9 N) (opfw_cons rfl (by kernel_rfl) (opensW24 N) opfw_nil))))) (Nat.le_succ N)
theorem opensW25 : ∀ N, OpensW N Try.prog 25 ((T_api_Update_rep).slice) (fun x => ((x.map fun y => ((1 + ((y.Name.length + 1) + (T_api_Expr_wt y.To + 0))) + 1)).sum + 1)) := fun N => opw_mono (opw_slice Try.underlying25 (by kernel_rfl) (by decide) (opensW29 N)) (Nat.le_succ N)

set_option maxRecDepth 100000 in
theorem lifted (os : Os) (started : os.Started) (H : Type) (enc : TypeId × Value → H) (F : Stop.Interp) :
    ReturnsInHanded {} Try.checked os 3 .any ((Rows.OpenSpec.upto Rows.readsTellsSpec).pre6 enc Try.prog Try.f3 Rows.readsTellsUptoRow.domain false) (((Rows.OpenSpec.upto Rows.readsTellsSpec).at F).post enc Try.prog Try.f3 false true false false) := by
  refine returnsInHanded_of_cond (C := Try.checked) (s := Rows.OpenSpec.upto Rows.readsTellsSpec) (k := Rows.uptoSmall) rfl own started (by kernel_rfl) Try.func3
    (OpenSpec.witness (enc := enc) (C := Try.checked) (s := Rows.OpenSpec.upto Rows.readsTellsSpec) (k := Rows.uptoSmall) rfl false ⟨#[], #[(.agg #[(.int .i64 0), (.string ⟨#[]⟩), (.int .i64 0), (.int .i64 0), (.int .i64 0), (.slice none 0 0)]), .slice none 0 0], []⟩ 8 (by kernel_rfl) (by kernel_rfl) (by kernel_rfl) (x := ([.agg [.lit (.int .i64 0), .lit (.string []), .lit (.int .i64 0), .lit (.int .i64 0), .lit (.int .i64 0), .nil], .nil], [], [])) (by kernel_rfl) rfl (by kernel_rfl)) ?_
  intro W base args ds gs before hval0 hW _ hk _
  suffices Calls Try.prog 3 args W fun e W1 => ∃ v, e = .returned v ∧ Rows.readsTellsSpec.post enc Try.prog Try.f3 false true false false W args v W1 from this
  have hval : ∀ (j : Nat) t v, Try.f3.params[j]? = some t → args[j]? = some v → Value.okWide Try.prog W .any base t v := hval0
  have hW' := hW
  obtain ⟨p, q, hA0, hV, rfl, hfz, hnd⟩ := hW
  have hA : DataW.TrodAll enc Try.prog W 0 (fun _ => true) true Try.f3.params.toList args.toList ds p := hA0
  rw [Try.params3] at hA hval
  obtain ⟨v0, vs0, d0, ds0, p0, q0, hargs, rfl, rfl, h0, r0⟩ := trodAll_cons hA
  obtain ⟨v1, vs1, d1, ds1, p1, q1, rfl, rfl, rfl, h1, r1⟩ := trodAll_cons r0
  obtain ⟨rfl, rfl, rfl⟩ := trodAll_nil r1
  obtain rfl : args = #[v0, v1] := by cases args; simp_all
  obtain ⟨rfl, rfl⟩ := trodVars_none hV
  have lt0 : ∀ x ∈ p0, x.block < W.heap.size := by obtain ⟨m, hm⟩ := h0; exact DataW.trod_lt m _ _ _ hm
  obtain ⟨x0, g0, b0⟩ : ∃ x, (T_api_Expr_rep).hv (okAll W) W x v0 ∧ T_api_Expr_wt x ≤ Rows.uptoBulk d0 := opensW_agg bulkOk opensW24 rfl Try.underlying24 (hval 0 24 v0 rfl rfl) h0
  have lt1 : ∀ x ∈ p1, x.block < W.heap.size := by obtain ⟨m, hm⟩ := h1; exact DataW.trod_lt m _ _ _ hm
  obtain ⟨x1, g1, b1⟩ : ∃ x, ((T_api_Update_rep).slice).hv (okAll W) W x v1 ∧ ((x.map fun y => ((1 + ((y.Name.length + 1) + (T_api_Expr_wt y.To + 0))) + 1)).sum + 1) ≤ Rows.uptoBulk d1 := opensW_one bulkOk opensW25 Try.underlying25 (hval 1 25 v1 rfl rfl) h1
  have hb := of_decide_eq_true hk
  simp only [List.cons_append, List.nil_append, Rows.uptoBulkAll] at hb
  have B0 : T_api_Expr_wt x0 ≤ 1048576 := by omega
  have B1 : ((x1.map fun y => ((1 + ((y.Name.length + 1) + (T_api_Expr_wt y.To + 0))) + 1)).sum + 1) ≤ 1048576 := by omega
  obtain ⟨fuel, hfuel⟩ : ∃ fuel, law12_ReadsTells fuel x0 x1 = some true := rtells_eq x0 x1 B0 B1
  have hc := law12_ReadsTells_ok fuel x0 x1 (okAll W) W [v0, v1] ⟨g0, g1, trivial⟩ (fun b o h => h) true (hfuel)
  refine hc.mono fun e W' ⟨ok', v, he, _, _, _, hv, bel0⟩ => ?_
  have bel := bel0.toBelow
  have hb := bool_hv hv
  subst hb; subst he
  exact ⟨_, rfl, _, _, _, [], _, [], hW', trodAll_mk1 (shut_bool Try.underlying4 _), (trodAll_cons_mk (Below.trod laidOut (by kernel_rfl) (of_decide_eq_true (by kernel_rfl)) h0 bel lt0) (trodAll_cons_mk (Below.trod laidOut (by kernel_rfl) (of_decide_eq_true (by kernel_rfl)) h1 bel lt1) trodAll_mk0)), rfl, bel.frame _, fun h => by cases h⟩

/-- THE STATEMENT. -/
theorem over : Rows.readsTellsUptoRow.holds Try.pinned (Rows.OpenSpec.upto Rows.readsTellsSpec) :=
  OpenClaim.holds_of_cond 3 Try.f3 rfl rfl rfl rfl rfl rfl rfl ⟨rfl, rfl, rfl, rfl, rfl⟩ rfl rfl rfl rfl rfl (by kernel_rfl) Try.func3 (by kernel_rfl)
    (of_decide_eq_true (by kernel_rfl)) (by unfold Func.isWrapper; first | (rw [if_pos (by decide +kernel)]; kernel_rfl) | (rw [if_neg (by decide +kernel)]; exact ⟨rfl, rfl⟩))
    (fun os started H enc _ F => lifted os started H enc F)
theorem proved : Rows.ReadsTellsUptoSaid := over
#print axioms proved
end Go.Proofs.Ytfglaalifilkoaa.readsTells
