/-
  No cell of these rows narrows 'for every input' (looked for: loops, veiled, ifaces, maps, wideKeys, modest, calm, conditions, laid).
  DERIVED. THE GIVEN ROWS OF THIS SEAT. 5 by the template 'for every input the law returns true; each argument reads behind the call as it read before'; 0 by the template 'total and deterministic' (their statements: YtbbjdhmdnggnoaaTotals.lean).
  GIVEN WITH THE SEED: the statements are not yours to turn. If you find one false, say at which input.
  Laid BY PROGRAM, IN A SANDBOX (cutbox-rows.mjs): the forced cells as the released guide's own fill.sh prints them over the translation 4afbfa51cd13daca… (all of the seat's roots in one cut). By AI agents, Wed Nov 11 2026. No macro, syntax, notation, axiom, sorry.
-/
import Derived.Test.YtbbjdhmdnggnoaaChecked
import GoSem.Claim
import GoSem.ClaimJoined
import GoSem.ClaimMapViews
import Derived.JoinedTies
import Derived.KernelRfl
namespace Go.Proofs.Ytbbjdhmdnggnoaa
/- THE CELL 'sum', in the pinned program and in every row, IS THE sha256 OF THE DUMP (.gsa) THAT YtbbjdhmdnggnoaaProg.lean LOADS. Nothing in Lean hashes anything: it is a label: what it is worth is what the hold of that sum in a sandbox is worth. -/
noncomputable def Try.pinned : Pinned := { name := "ytbbjdhmdnggnoaa", sum := "4afbfa51cd13daca9dd6f9d1043185428af8c90cdbec088f1bafec9d6d470bd4", checked := Try.checked }
namespace Rows
def none {H : Type} : Left H := { results := [], args := [] }

/-- 'beadlelaw34.QuotaRuns': WHATEVER THE INPUT: true; the input reads as it did. -/
def quotaRunsSpec : ChangeSpec := { name := "quotaRuns", fn := fun _ => fun
  | [d1, d2, d3] => { results := [.lit (.bool true)], args := [d1, d2, d3] }
  | _ => none }
def quotaRunsRow : OpenClaim := { program := "ytbbjdhmdnggnoaa", sum := "4afbfa51cd13daca9dd6f9d1043185428af8c90cdbec088f1bafec9d6d470bd4", func := "beadle/beadlelaw34.QuotaRuns", spec := "quotaRuns", apart := false }
def QuotaRunsSaid : Prop := quotaRunsRow.holds Try.pinned (OpenSpec.ofChange quotaRunsSpec)

/-- ITS FALSE NEIGHBOUR: 'it returns false'. Refute it at one input. -/
def quotaRunsWrong : ChangeSpec := { name := "quotaRuns", fn := fun _ => fun
  | [d1, d2, d3] => { results := [.lit (.bool false)], args := [d1, d2, d3] }
  | _ => none }
def QuotaRunsWrongFalsely : Prop := quotaRunsRow.holds Try.pinned (OpenSpec.ofChange quotaRunsWrong)

/-- 'beadlelaw34.QuotaWaits': WHATEVER THE INPUT: true; the input reads as it did. -/
def quotaWaitsSpec : ChangeSpec := { name := "quotaWaits", fn := fun _ => fun
  | [d1, d2, d3, d4, d5, d6] => { results := [.lit (.bool true)], args := [d1, d2, d3, d4, d5, d6] }
  | _ => none }
def quotaWaitsRow : OpenClaim := { program := "ytbbjdhmdnggnoaa", sum := "4afbfa51cd13daca9dd6f9d1043185428af8c90cdbec088f1bafec9d6d470bd4", func := "beadle/beadlelaw34.QuotaWaits", spec := "quotaWaits", apart := false }
def QuotaWaitsSaid : Prop := quotaWaitsRow.holds Try.pinned (OpenSpec.ofChange quotaWaitsSpec)

/-- ITS FALSE NEIGHBOUR: 'it returns false'. Refute it at one input. -/
def quotaWaitsWrong : ChangeSpec := { name := "quotaWaits", fn := fun _ => fun
  | [d1, d2, d3, d4, d5, d6] => { results := [.lit (.bool false)], args := [d1, d2, d3, d4, d5, d6] }
  | _ => none }
def QuotaWaitsWrongFalsely : Prop := quotaWaitsRow.holds Try.pinned (OpenSpec.ofChange quotaWaitsWrong)

/-- 'beadlelaw34.QuotaClones': WHATEVER THE INPUT: true; the input reads as it did. -/
def quotaClonesSpec : ChangeSpec := { name := "quotaClones", fn := fun _ => fun
  | [d1, d2, d3, d4] => { results := [.lit (.bool true)], args := [d1, d2, d3, d4] }
  | _ => none }
def quotaClonesRow : OpenClaim := { program := "ytbbjdhmdnggnoaa", sum := "4afbfa51cd13daca9dd6f9d1043185428af8c90cdbec088f1bafec9d6d470bd4", func := "beadle/beadlelaw34.QuotaClones", spec := "quotaClones", apart := false }
def QuotaClonesSaid : Prop := quotaClonesRow.holds Try.pinned (OpenSpec.ofChange quotaClonesSpec)

/-- ITS FALSE NEIGHBOUR: 'it returns false'. Refute it at one input. -/
def quotaClonesWrong : ChangeSpec := { name := "quotaClones", fn := fun _ => fun
  | [d1, d2, d3, d4] => { results := [.lit (.bool false)], args := [d1, d2, d3, d4] }
  | _ => none }
def QuotaClonesWrongFalsely : Prop := quotaClonesRow.holds Try.pinned (OpenSpec.ofChange quotaClonesWrong)

/-- 'beadlelaw34.QuotaBound': WHATEVER THE INPUT: true; the input reads as it did. -/
def quotaBoundSpec : ChangeSpec := { name := "quotaBound", fn := fun _ => fun
  | [d1, d2, d3] => { results := [.lit (.bool true)], args := [d1, d2, d3] }
  | _ => none }
def quotaBoundRow : OpenClaim := { program := "ytbbjdhmdnggnoaa", sum := "4afbfa51cd13daca9dd6f9d1043185428af8c90cdbec088f1bafec9d6d470bd4", func := "beadle/beadlelaw34.QuotaBound", spec := "quotaBound", apart := false }
def QuotaBoundSaid : Prop := quotaBoundRow.holds Try.pinned (OpenSpec.ofChange quotaBoundSpec)

/-- ITS FALSE NEIGHBOUR: 'it returns false'. Refute it at one input. -/
def quotaBoundWrong : ChangeSpec := { name := "quotaBound", fn := fun _ => fun
  | [d1, d2, d3] => { results := [.lit (.bool false)], args := [d1, d2, d3] }
  | _ => none }
def QuotaBoundWrongFalsely : Prop := quotaBoundRow.holds Try.pinned (OpenSpec.ofChange quotaBoundWrong)

/-- 'beadlelaw15.DequeNobody': WHATEVER THE INPUT: true; the input reads as it did. -/
def dequeNobodySpec : ChangeSpec := { name := "dequeNobody", fn := fun _ => fun
  | [d] => { results := [.lit (.bool true)], args := [d] }
  | _ => none }
def dequeNobodyRow : OpenClaim := { program := "ytbbjdhmdnggnoaa", sum := "4afbfa51cd13daca9dd6f9d1043185428af8c90cdbec088f1bafec9d6d470bd4", func := "beadle/beadlelaw15.DequeNobody", spec := "dequeNobody", apart := false }
def DequeNobodySaid : Prop := dequeNobodyRow.holds Try.pinned (OpenSpec.ofChange dequeNobodySpec)

/-- ITS FALSE NEIGHBOUR: 'it returns false'. Refute it at one input. -/
def dequeNobodyWrong : ChangeSpec := { name := "dequeNobody", fn := fun _ => fun
  | [d] => { results := [.lit (.bool false)], args := [d] }
  | _ => none }
def DequeNobodyWrongFalsely : Prop := dequeNobodyRow.holds Try.pinned (OpenSpec.ofChange dequeNobodyWrong)

/- THE SECOND FORM. 'bulk': how many values and letters a reading holds, each counted each time it is reached (what is shared counts as often as it is met; a slice's spare places count too). A statement '..UptoSaid' is the law's where the arguments, and the package variables that the reading takes, are together of bulk at most 1048576: NARROWER than '..Said'. Prove '..Said' where nothing that the law and all that it calls make is longer than what came in: it says more and counts as full. Else prove '..UptoSaid'. A law counts once. -/
mutual
def uptoBulk {H : Type} : DataW H → Nat
  | .lit (.string bytes) => bytes.length + 1
  | .lit _ => 1
  | .nil => 1
  | .ptr d => uptoBulk d + 1
  | .slice elems spare => uptoBulkAll elems + uptoBulkAll spare + 1
  | .agg parts => uptoBulkAll parts + 1
  | .iface _ d => uptoBulk d + 1
  | .map entries => uptoBulkEntries entries + 1
  | .held _ => 1
def uptoBulkAll {H : Type} : List (DataW H) → Nat
  | [] => 0
  | d :: r => uptoBulk d + uptoBulkAll r
def uptoBulkEntries {H : Type} : List (Lit × DataW H) → Nat
  | [] => 0
  | x :: r => uptoBulkEntry x + uptoBulkEntries r
def uptoBulkEntry {H : Type} : Lit × DataW H → Nat
  | (.string bytes, d) => bytes.length + uptoBulk d + 1
  | (_, d) => uptoBulk d + 1
 end
def uptoSmall : (H : Type) → List (DataW H) → Bool := fun _ ds => decide (uptoBulkAll ds ≤ 1048576)
def OpenSpec.upto (s : _root_.Go.ChangeSpec) : _root_.Go.OpenSpec := { _root_.Go.OpenSpec.ofChange s with cond := some uptoSmall }

/-- 'beadlelaw34.QuotaRuns', WHERE WHAT IT READS IS OF BULK AT MOST 1048576: true; the input reads as it did. -/
def quotaRunsUptoRow : OpenClaim := { program := "ytbbjdhmdnggnoaa", sum := "4afbfa51cd13daca9dd6f9d1043185428af8c90cdbec088f1bafec9d6d470bd4", func := "beadle/beadlelaw34.QuotaRuns", spec := "quotaRuns", apart := false, narrowed := true }
def QuotaRunsUptoSaid : Prop := quotaRunsUptoRow.holds Try.pinned (OpenSpec.upto quotaRunsSpec)

/-- 'beadlelaw34.QuotaWaits', WHERE WHAT IT READS IS OF BULK AT MOST 1048576: true; the input reads as it did. -/
def quotaWaitsUptoRow : OpenClaim := { program := "ytbbjdhmdnggnoaa", sum := "4afbfa51cd13daca9dd6f9d1043185428af8c90cdbec088f1bafec9d6d470bd4", func := "beadle/beadlelaw34.QuotaWaits", spec := "quotaWaits", apart := false, narrowed := true }
def QuotaWaitsUptoSaid : Prop := quotaWaitsUptoRow.holds Try.pinned (OpenSpec.upto quotaWaitsSpec)

/-- 'beadlelaw34.QuotaClones', WHERE WHAT IT READS IS OF BULK AT MOST 1048576: true; the input reads as it did. -/
def quotaClonesUptoRow : OpenClaim := { program := "ytbbjdhmdnggnoaa", sum := "4afbfa51cd13daca9dd6f9d1043185428af8c90cdbec088f1bafec9d6d470bd4", func := "beadle/beadlelaw34.QuotaClones", spec := "quotaClones", apart := false, narrowed := true }
def QuotaClonesUptoSaid : Prop := quotaClonesUptoRow.holds Try.pinned (OpenSpec.upto quotaClonesSpec)

/-- 'beadlelaw34.QuotaBound', WHERE WHAT IT READS IS OF BULK AT MOST 1048576: true; the input reads as it did. -/
def quotaBoundUptoRow : OpenClaim := { program := "ytbbjdhmdnggnoaa", sum := "4afbfa51cd13daca9dd6f9d1043185428af8c90cdbec088f1bafec9d6d470bd4", func := "beadle/beadlelaw34.QuotaBound", spec := "quotaBound", apart := false, narrowed := true }
def QuotaBoundUptoSaid : Prop := quotaBoundUptoRow.holds Try.pinned (OpenSpec.upto quotaBoundSpec)

/-- 'beadlelaw15.DequeNobody', WHERE WHAT IT READS IS OF BULK AT MOST 1048576: true; the input reads as it did. -/
def dequeNobodyUptoRow : OpenClaim := { program := "ytbbjdhmdnggnoaa", sum := "4afbfa51cd13daca9dd6f9d1043185428af8c90cdbec088f1bafec9d6d470bd4", func := "beadle/beadlelaw15.DequeNobody", spec := "dequeNobody", apart := false, narrowed := true }
def DequeNobodyUptoSaid : Prop := dequeNobodyUptoRow.holds Try.pinned (OpenSpec.upto dequeNobodySpec)

end Rows
end Go.Proofs.Ytbbjdhmdnggnoaa
