/-
  OutlineVerdicts: for every such input the law answers true, and what was handed in reads as it did. Condition: the input (with the package variables read) has a bulk of at most 1048576, as the Upto statement says. Package variables are read as the tied card says.
-/
import Derived.Test.YtcmkbaoeacingaaDoorRows
import Derived.Test.YtcmkbaoeacingaaDoorCards
import Derived.Test.YtcmkbaoeacingaaDoorTie
import Derived.Test.YtcmkbaoeacingaaDoorOks
import Derived.Test.YtcmkbaoeacingaaDoorZb
import Derived.JoinedCond
import Derived.Deep.DeepHandedRow
namespace Go.Proofs.YtcmkbaoeacingaaDoor.outlineVerdicts
open Go.ChangeShapes Go.WideShapes Go.ChangeAt Go.RowKit Go.Eng Go.Proofs.YtcmkbaoeacingaaDoor.M
set_option linter.unusedVariables false

theorem own : ownKnob Tryd.prog.godebug = none := by kernel_rfl
theorem laidOut : laidOutB Tryd.prog = true := by kernel_rfl

theorem one_le {H : Type} (d : DataW H) : 1 ≤ Rows.uptoBulk d := by
  cases d with
  | lit l => cases l <;> simp [Rows.uptoBulk]
  | nil => simp [Rows.uptoBulk]
  | ptr d => simp [Rows.uptoBulk]
  | slice elems spare => simp [Rows.uptoBulk]
  | agg parts => simp [Rows.uptoBulk]
  | iface t d => simp [Rows.uptoBulk]
  | map entries => simp [Rows.uptoBulk]
  | held h => simp [Rows.uptoBulk]
theorem bulkOk {H : Type} : BulkOk (H := H) Rows.uptoBulk Rows.uptoBulkAll := ⟨one_le, fun _ => by simp [Rows.uptoBulk], fun _ _ => by simp [Rows.uptoBulk], fun _ => by simp [Rows.uptoBulk], by simp [Rows.uptoBulkAll], fun _ _ => by simp [Rows.uptoBulkAll]⟩

theorem opensW22 : ∀ N, OpensW N Tryd.prog 22 (Rep.int .i64) (fun x => 1) := fun N => opw_int Tryd.underlying22
theorem opensW3 : ∀ N, OpensW N Tryd.prog 3 (Rep.int .i64) (fun x => 1) := fun N => opw_int Tryd.underlying3
theorem opensW27 : ∀ N, OpensW N Tryd.prog 27 (T_api_Verdict_rep) (fun x => ((1 + (1 + (1 + 0))) + 1)) := fun N => opw_mono (opw_iso (R := T_api_Verdict_rep0) (fun x => ⟨x.1, x.2.1, x.2.2.1⟩) (fun _ => rfl) (opw_struct Tryd.underlying27 rfl (by kernel_rfl) (opfw_cons rfl (by kernel_rfl) (opensW3 N) (opfw_cons rfl (by kernel_rfl) (opensW3 N) (opfw_cons rfl (by kernel_rfl) (opensW22 N) opfw_nil))))) (Nat.le_succ N)
theorem opensW23 : ∀ N, OpensW N Tryd.prog 23 ((T_api_Verdict_rep).slice) (fun x => ((x.map fun y => ((1 + (1 + (1 + 0))) + 1)).sum + 1)) := fun N => opw_mono (opw_slice Tryd.underlying23 (by kernel_rfl) (by decide) (opensW27 N)) (Nat.le_succ N)
theorem opensW25 : ∀ N, OpensW N Tryd.prog 25 (T_record_Record_rep) (fun x => ((1 + (((x.Verdicts.map fun y => ((1 + (1 + (1 + 0))) + 1)).sum + 1) + 0)) + 1)) := fun N => opw_mono (opw_iso (R := T_record_Record_rep0) (fun x => ⟨x.1, x.2.1⟩) (fun _ => rfl) (opw_struct Tryd.underlying25 rfl (by kernel_rfl) (opfw_cons rfl (by kernel_rfl) (opensW22 N) (opfw_cons rfl (by kernel_rfl) (opensW23 N) opfw_nil)))) (Nat.le_succ N)

theorem gVar : Tryd.prog.globalNamed "beadle/outline.verdicts" = some 0 := by kernel_rfl
theorem gVarType : (Tryd.prog.globals[0]?).map (·.type) = some 54 := by kernel_rfl
theorem cellsA : Tryd.prog.cellsOf 54 = 6 := by kernel_rfl
theorem cellsE : Tryd.prog.cellsOf 9 = 1 := by kernel_rfl
theorem fact {W : World} (h : laidMetH Tryd.prog Rows.outlineVerdictsUptoRow.laid W) : (Item.obj false 0 0 (gfact 0 (Rep.arr 6 Rep.str) glob0) ()).at (fun _ _ => False) (okAll W) W :=
  texts_fact gVar gVarType Tryd.underlying54 Tryd.underlying9 cellsE cellsA h
noncomputable def laidWorld (os : Os) : World :=
  { World.holding Tryd.prog os ⟨#[], #[], []⟩ with heap := (World.holding Tryd.prog os ⟨#[], #[], []⟩).heap.modify 0 fun
      | .cells _ t frozen => .cells #[.string ⟨#[]⟩, .string ⟨#[103, 114, 97, 110, 116]⟩, .string ⟨#[100, 101, 110, 121]⟩, .string ⟨#[103, 111]⟩, .string ⟨#[114, 101, 118, 111, 107, 101]⟩, .string ⟨#[101, 110, 100]⟩] t frozen
      | o => o }
theorem laid_met (os : Os) : laidMet Tryd.prog Rows.outlineVerdictsUptoRow.laid ((laidWorld os).forCall (fun _ _ => 0) ⟨#[], #[(.agg #[(.int .i64 0), (.slice none 0 0)]), (.agg #[(.int .i64 0), (.int .i64 0), (.int .i64 0)])], []⟩).memory :=
  laidMet_of_run' 8 (by kernel_rfl) (by kernel_rfl)
theorem reads (os : Os) {H : Type} (enc : TypeId × Value → H) : ∃ places, DataW.whole enc Tryd.prog ((laidWorld os).forCall (fun _ _ => 0) ⟨#[], #[(.agg #[(.int .i64 0), (.slice none 0 0)]), (.agg #[(.int .i64 0), (.int .i64 0), (.int .i64 0)])], []⟩).memory Tryd.f3.params.toList Rows.outlineVerdictsSpec.vars false (#[(.agg #[(.int .i64 0), (.slice none 0 0)]), (.agg #[(.int .i64 0), (.int .i64 0), (.int .i64 0)])] : Array Value).toList 8 = some ([.agg [.lit (.int .i64 0), .nil], .agg [.lit (.int .i64 0), .lit (.int .i64 0), .lit (.int .i64 0)]], [], places) :=
  ⟨[], by kernel_rfl⟩
set_option maxRecDepth 100000 in
theorem lifted (os : Os) (started : os.Started) (H : Type) (enc : TypeId × Value → H) (F : Stop.Interp) :
    ReturnsInHanded {} Tryd.checked os 3 .any ((Rows.OpenSpec.upto Rows.outlineVerdictsSpec).preRow enc Tryd.prog Tryd.f3 Rows.outlineVerdictsUptoRow.domain false Rows.outlineVerdictsUptoRow.laid) (((Rows.OpenSpec.upto Rows.outlineVerdictsSpec).at F).post enc Tryd.prog Tryd.f3 false true false false) := by
  obtain ⟨places, hx⟩ := reads os enc
  refine returnsInHanded_of_row (C := Tryd.checked) (s := (Rows.OpenSpec.upto Rows.outlineVerdictsSpec)) own started (by kernel_rfl) Tryd.func3
    (witness_row_at (enc := enc) (C := Tryd.checked) false (laidWorld os) #[(.agg #[(.int .i64 0), (.slice none 0 0)]), (.agg #[(.int .i64 0), (.int .i64 0), (.int .i64 0)])] rfl (by kernel_rfl) (by kernel_rfl) (by kernel_rfl)
      (OpenSpec.preRow_of_cond 8 hx (by kernel_rfl) (fun k hk => by cases hk; kernel_rfl) (by kernel_rfl) (laid_met os))) ?_
  intro W base args ds gs before hval0 hW _ hcond _ hL _ _
  have hk := hcond _ rfl
  suffices Calls Tryd.prog 3 args W fun e W1 => ∃ v, e = .returned v ∧ Rows.outlineVerdictsSpec.post enc Tryd.prog Tryd.f3 false true false false W args v W1 from this
  have hval : ∀ (j : Nat) t v, Tryd.f3.params[j]? = some t → args[j]? = some v → Value.okWide Tryd.prog W .any base t v := hval0
  have hW' := hW
  obtain ⟨p, q, hA0, hV, rfl, hfz, hnd⟩ := hW
  have hA : DataW.TrodAll enc Tryd.prog W 0 (fun _ => true) true Tryd.f3.params.toList args.toList ds p := hA0
  rw [Tryd.params3] at hA hval
  obtain ⟨v0, vs0, d0, ds0, p0, q0, hargs, rfl, rfl, h0, r0⟩ := trodAll_cons hA
  obtain ⟨v1, vs1, d1, ds1, p1, q1, rfl, rfl, rfl, h1, r1⟩ := trodAll_cons r0
  obtain ⟨rfl, rfl, rfl⟩ := trodAll_nil r1
  obtain rfl : args = #[v0, v1] := by cases args; simp_all
  obtain ⟨rfl, rfl⟩ := trodVars_none hV
  have lt0 : ∀ x ∈ p0, x.block < W.heap.size := by obtain ⟨m, hm⟩ := h0; exact DataW.trod_lt m _ _ _ hm
  obtain ⟨x0, g0, b0⟩ : ∃ x, (T_record_Record_rep).hv (okAll W) W x v0 ∧ ((1 + (((x.Verdicts.map fun y => ((1 + (1 + (1 + 0))) + 1)).sum + 1) + 0)) + 1) ≤ Rows.uptoBulk d0 := opensW_agg bulkOk opensW25 rfl Tryd.underlying25 (hval 0 25 v0 rfl rfl) h0
  have lt1 : ∀ x ∈ p1, x.block < W.heap.size := by obtain ⟨m, hm⟩ := h1; exact DataW.trod_lt m _ _ _ hm
  obtain ⟨x1, g1, b1⟩ : ∃ x, (T_api_Verdict_rep).hv (okAll W) W x v1 ∧ ((1 + (1 + (1 + 0))) + 1) ≤ Rows.uptoBulk d1 := opensW_agg bulkOk opensW27 rfl Tryd.underlying27 (hval 1 27 v1 rfl rfl) h1
  have hb := of_decide_eq_true hk
  simp only [List.cons_append, List.nil_append, Rows.uptoBulkAll] at hb
  have B0 : ((1 + (((x0.Verdicts.map fun y => ((1 + (1 + (1 + 0))) + 1)).sum + 1) + 0)) + 1) ≤ 1048576 := by omega
  have B1 : ((1 + (1 + (1 + 0))) + 1) ≤ 1048576 := by omega
  obtain ⟨fuel, hfuel⟩ : ∃ fuel, law37_OutlineVerdicts fuel x0 x1 = some true := overdicts_eq (recd_hv g0) (recd_len B0) (verd_hv g1)
  have hc := call_facts (law37_OutlineVerdicts_ok fuel x0 x1) (ok := okAll W) (w := W) (vs := [v0, v1]) ⟨g0, g1, trivial⟩ (fun b o h => h) (fun i it hi => by
    cases i with
    | zero => cases hi; exact fact hL
    | succ i => simp at hi) (y := true) (hfuel)
  refine hc.mono fun e W' ⟨ok', v, he, _, _, _, hv, bel0⟩ => ?_
  have bel := bel0.toBelow
  have hb := bool_hv hv
  subst hb; subst he
  exact ⟨_, rfl, _, _, _, [], _, [], hW', trodAll_mk1 (shut_bool Tryd.underlying4 _), (trodAll_cons_mk (Below.trod laidOut (by kernel_rfl) (of_decide_eq_true (by kernel_rfl)) h0 bel lt0) (trodAll_cons_mk (Below.trod laidOut (by kernel_rfl) (of_decide_eq_true (by kernel_rfl)) h1 bel lt1) trodAll_mk0)), rfl, bel.frame _, fun h => by cases h⟩

/-- The row. -/
theorem said : Rows.outlineVerdictsUptoRow.holds Tryd.pinned (Rows.OpenSpec.upto Rows.outlineVerdictsSpec) :=
  OpenClaim.holds_of_cond 3 Tryd.f3 rfl rfl rfl rfl rfl rfl rfl ⟨rfl, rfl, rfl, rfl, rfl⟩ rfl rfl rfl rfl rfl (by kernel_rfl) Tryd.func3 (by kernel_rfl)
    (of_decide_eq_true (by kernel_rfl)) (by unfold Func.isWrapper; first | (rw [if_pos (by decide +kernel)]; kernel_rfl) | (rw [if_neg (by decide +kernel)]; exact ⟨rfl, rfl⟩))
    (fun os started H enc _ F => by rw [OpenClaim.pre_eq_preRow]; exact lifted os started H enc F)
theorem plain (f : FuncId) (fn : Func) (hf : Tryd.pinned.checked.prog.funcNamed "beadle/beadlelaw37.OutlineVerdicts" = some f) (hfn : Tryd.pinned.checked.prog.funcs[f]? = some fn) :
    false = Tryd.pinned.checked.prog.looks [] ∧ ∀ (j : Nat) t, fn.params[j]? = some t → Tryd.pinned.checked.prog.wantsStandIn t = false := by
  obtain rfl : f = 3 := Option.some.inj ((show Tryd.prog.funcNamed "beadle/beadlelaw37.OutlineVerdicts" = some 3 by kernel_rfl).symm.trans hf) |>.symm
  obtain rfl : fn = Tryd.f3 := (Option.some.inj (Tryd.func3.symm.trans hfn)).symm
  refine ⟨by kernel_rfl, fun j t ht => ?_⟩
  rw [Tryd.params3] at ht
  have hm := Array.mem_of_getElem? ht
  simp only [List.mem_toArray, List.mem_cons, List.not_mem_nil, or_false] at hm
  rcases hm with rfl | rfl
  · exact (show Tryd.prog.wantsStandIn 25 = false by kernel_rfl)
  · exact (show Tryd.prog.wantsStandIn 27 = false by kernel_rfl)
/-- THE STATEMENT: the card. -/
theorem proved : Rows.OutlineVerdictsUptoCardSaid :=
  Claim7.holds_tied_plain_at .later [] _ _ _ _ said (fun _ h => by cases h) (by kernel_rfl) (fun _ h => by cases h) outlineVerdictsUpto_row_tie rfl ⟨rfl, rfl⟩ (by kernel_rfl) rfl plain (by kernel_rfl)
#print axioms proved
end Go.Proofs.YtcmkbaoeacingaaDoor.outlineVerdicts
