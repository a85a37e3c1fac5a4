/-
  No cell of these rows narrows 'for every input' (looked for: loops, veiled, ifaces, maps, wideKeys, modest, calm, conditions, laid).
  DERIVED. THE GIVEN ROWS OF THIS SEAT. 12 by the template 'for every input the law returns true; each argument reads behind the call as it read before'; 0 by the template 'total and deterministic' (their statements: YtijfebipalhhjaaTotals.lean).
  GIVEN WITH THE SEED: the statements are not yours to turn. If you find one false, say at which input.
  Laid BY PROGRAM, IN A SANDBOX (cutbox-rows.mjs): the forced cells as the released guide's own fill.sh prints them over the translation 9d4b90ed8b627fa9… (all of the seat's roots in one cut). By AI agents, Wed Nov 11 2026. No macro, syntax, notation, axiom, sorry.
-/
import Derived.Test.YtijfebipalhhjaaChecked
import GoSem.Claim
import GoSem.ClaimJoined
import GoSem.ClaimMapViews
import Derived.JoinedTies
import Derived.KernelRfl
namespace Go.Proofs.Ytijfebipalhhjaa
/- THE CELL 'sum', in the pinned program and in every row, IS THE sha256 OF THE DUMP (.gsa) THAT YtijfebipalhhjaaProg.lean LOADS. Nothing in Lean hashes anything: it is a label: what it is worth is what the hold of that sum in a sandbox is worth. -/
noncomputable def Try.pinned : Pinned := { name := "ytijfebipalhhjaa", sum := "9d4b90ed8b627fa9c56a5f6950e4e5c9d3ff60eebea222b7db24ba279e7c9015", checked := Try.checked }
namespace Rows
def none {H : Type} : Left H := { results := [], args := [] }

/-- 'beadlelaw05.StoreRuns': WHATEVER THE INPUT: true; the input reads as it did. -/
def storeRunsSpec : ChangeSpec := { name := "storeRuns", fn := fun _ => fun
  | [d1, d2] => { results := [.lit (.bool true)], args := [d1, d2] }
  | _ => none }
def storeRunsRow : OpenClaim := { program := "ytijfebipalhhjaa", sum := "9d4b90ed8b627fa9c56a5f6950e4e5c9d3ff60eebea222b7db24ba279e7c9015", func := "beadle/beadlelaw05.StoreRuns", spec := "storeRuns", unfollowed := true, recurses := true, plainKeys := false, apart := false }
def StoreRunsSaid : Prop := storeRunsRow.holds Try.pinned (OpenSpec.ofChange storeRunsSpec)

/-- ITS FALSE NEIGHBOUR: 'it returns false'. Refute it at one input. -/
def storeRunsWrong : ChangeSpec := { name := "storeRuns", fn := fun _ => fun
  | [d1, d2] => { results := [.lit (.bool false)], args := [d1, d2] }
  | _ => none }
def StoreRunsWrongFalsely : Prop := storeRunsRow.holds Try.pinned (OpenSpec.ofChange storeRunsWrong)

/-- 'beadlelaw05.StoreClones': WHATEVER THE INPUT: true; the input reads as it did. -/
def storeClonesSpec : ChangeSpec := { name := "storeClones", fn := fun _ => fun
  | [d1, d2, d3, d4] => { results := [.lit (.bool true)], args := [d1, d2, d3, d4] }
  | _ => none }
def storeClonesRow : OpenClaim := { program := "ytijfebipalhhjaa", sum := "9d4b90ed8b627fa9c56a5f6950e4e5c9d3ff60eebea222b7db24ba279e7c9015", func := "beadle/beadlelaw05.StoreClones", spec := "storeClones", inPlace := ["maps.clone"], unfollowed := true, recurses := true, plainKeys := false, apart := false }
def StoreClonesSaid : Prop := storeClonesRow.holds Try.pinned (OpenSpec.ofChange storeClonesSpec)

/-- ITS FALSE NEIGHBOUR: 'it returns false'. Refute it at one input. -/
def storeClonesWrong : ChangeSpec := { name := "storeClones", fn := fun _ => fun
  | [d1, d2, d3, d4] => { results := [.lit (.bool false)], args := [d1, d2, d3, d4] }
  | _ => none }
def StoreClonesWrongFalsely : Prop := storeClonesRow.holds Try.pinned (OpenSpec.ofChange storeClonesWrong)

/-- 'beadlelaw05.StoreKeeps': WHATEVER THE INPUT: true; the input reads as it did. -/
def storeKeepsSpec : ChangeSpec := { name := "storeKeeps", fn := fun _ => fun
  | [d1, d2, d3] => { results := [.lit (.bool true)], args := [d1, d2, d3] }
  | _ => none }
def storeKeepsRow : OpenClaim := { program := "ytijfebipalhhjaa", sum := "9d4b90ed8b627fa9c56a5f6950e4e5c9d3ff60eebea222b7db24ba279e7c9015", func := "beadle/beadlelaw05.StoreKeeps", spec := "storeKeeps", unfollowed := true, recurses := true, plainKeys := false, apart := false }
def StoreKeepsSaid : Prop := storeKeepsRow.holds Try.pinned (OpenSpec.ofChange storeKeepsSpec)

/-- ITS FALSE NEIGHBOUR: 'it returns false'. Refute it at one input. -/
def storeKeepsWrong : ChangeSpec := { name := "storeKeeps", fn := fun _ => fun
  | [d1, d2, d3] => { results := [.lit (.bool false)], args := [d1, d2, d3] }
  | _ => none }
def StoreKeepsWrongFalsely : Prop := storeKeepsRow.holds Try.pinned (OpenSpec.ofChange storeKeepsWrong)

/-- 'beadlelaw05.StoreNobody': WHATEVER THE INPUT: true; the input reads as it did. -/
def storeNobodySpec : ChangeSpec := { name := "storeNobody", fn := fun _ => fun
  | [d1, d2, d3] => { results := [.lit (.bool true)], args := [d1, d2, d3] }
  | _ => none }
def storeNobodyRow : OpenClaim := { program := "ytijfebipalhhjaa", sum := "9d4b90ed8b627fa9c56a5f6950e4e5c9d3ff60eebea222b7db24ba279e7c9015", func := "beadle/beadlelaw05.StoreNobody", spec := "storeNobody", inPlace := ["maps.clone"], unfollowed := true, recurses := true, plainKeys := false, apart := false }
def StoreNobodySaid : Prop := storeNobodyRow.holds Try.pinned (OpenSpec.ofChange storeNobodySpec)

/-- ITS FALSE NEIGHBOUR: 'it returns false'. Refute it at one input. -/
def storeNobodyWrong : ChangeSpec := { name := "storeNobody", fn := fun _ => fun
  | [d1, d2, d3] => { results := [.lit (.bool false)], args := [d1, d2, d3] }
  | _ => none }
def StoreNobodyWrongFalsely : Prop := storeNobodyRow.holds Try.pinned (OpenSpec.ofChange storeNobodyWrong)

/-- 'beadlelaw33.WallRuns': WHATEVER THE INPUT: true; the input reads as it did. -/
def wallRunsSpec : ChangeSpec := { name := "wallRuns", fn := fun _ => fun
  | [d1, d2] => { results := [.lit (.bool true)], args := [d1, d2] }
  | _ => none }
def wallRunsRow : OpenClaim := { program := "ytijfebipalhhjaa", sum := "9d4b90ed8b627fa9c56a5f6950e4e5c9d3ff60eebea222b7db24ba279e7c9015", func := "beadle/beadlelaw33.WallRuns", spec := "wallRuns", recurses := true, plainKeys := false, apart := false }
def WallRunsSaid : Prop := wallRunsRow.holds Try.pinned (OpenSpec.ofChange wallRunsSpec)

/-- ITS FALSE NEIGHBOUR: 'it returns false'. Refute it at one input. -/
def wallRunsWrong : ChangeSpec := { name := "wallRuns", fn := fun _ => fun
  | [d1, d2] => { results := [.lit (.bool false)], args := [d1, d2] }
  | _ => none }
def WallRunsWrongFalsely : Prop := wallRunsRow.holds Try.pinned (OpenSpec.ofChange wallRunsWrong)

/-- 'beadlelaw33.WallNever': WHATEVER THE INPUT: true; the input reads as it did. -/
def wallNeverSpec : ChangeSpec := { name := "wallNever", fn := fun _ => fun
  | [d1, d2, d3] => { results := [.lit (.bool true)], args := [d1, d2, d3] }
  | _ => none }
def wallNeverRow : OpenClaim := { program := "ytijfebipalhhjaa", sum := "9d4b90ed8b627fa9c56a5f6950e4e5c9d3ff60eebea222b7db24ba279e7c9015", func := "beadle/beadlelaw33.WallNever", spec := "wallNever", recurses := true, plainKeys := false, apart := false }
def WallNeverSaid : Prop := wallNeverRow.holds Try.pinned (OpenSpec.ofChange wallNeverSpec)

/-- ITS FALSE NEIGHBOUR: 'it returns false'. Refute it at one input. -/
def wallNeverWrong : ChangeSpec := { name := "wallNever", fn := fun _ => fun
  | [d1, d2, d3] => { results := [.lit (.bool false)], args := [d1, d2, d3] }
  | _ => none }
def WallNeverWrongFalsely : Prop := wallNeverRow.holds Try.pinned (OpenSpec.ofChange wallNeverWrong)

/-- 'beadlelaw33.WallKeeps': WHATEVER THE INPUT: true; the input reads as it did. -/
def wallKeepsSpec : ChangeSpec := { name := "wallKeeps", fn := fun _ => fun
  | [d1, d2, d3, d4, d5, d6] => { results := [.lit (.bool true)], args := [d1, d2, d3, d4, d5, d6] }
  | _ => none }
def wallKeepsRow : OpenClaim := { program := "ytijfebipalhhjaa", sum := "9d4b90ed8b627fa9c56a5f6950e4e5c9d3ff60eebea222b7db24ba279e7c9015", func := "beadle/beadlelaw33.WallKeeps", spec := "wallKeeps", recurses := true, plainKeys := false, apart := false }
def WallKeepsSaid : Prop := wallKeepsRow.holds Try.pinned (OpenSpec.ofChange wallKeepsSpec)

/-- ITS FALSE NEIGHBOUR: 'it returns false'. Refute it at one input. -/
def wallKeepsWrong : ChangeSpec := { name := "wallKeeps", fn := fun _ => fun
  | [d1, d2, d3, d4, d5, d6] => { results := [.lit (.bool false)], args := [d1, d2, d3, d4, d5, d6] }
  | _ => none }
def WallKeepsWrongFalsely : Prop := wallKeepsRow.holds Try.pinned (OpenSpec.ofChange wallKeepsWrong)

/-- 'beadlelaw33.WallClones': WHATEVER THE INPUT: true; the input reads as it did. -/
def wallClonesSpec : ChangeSpec := { name := "wallClones", fn := fun _ => fun
  | [d1, d2, d3, d4] => { results := [.lit (.bool true)], args := [d1, d2, d3, d4] }
  | _ => none }
def wallClonesRow : OpenClaim := { program := "ytijfebipalhhjaa", sum := "9d4b90ed8b627fa9c56a5f6950e4e5c9d3ff60eebea222b7db24ba279e7c9015", func := "beadle/beadlelaw33.WallClones", spec := "wallClones", inPlace := ["maps.clone"], recurses := true, plainKeys := false, apart := false }
def WallClonesSaid : Prop := wallClonesRow.holds Try.pinned (OpenSpec.ofChange wallClonesSpec)

/-- ITS FALSE NEIGHBOUR: 'it returns false'. Refute it at one input. -/
def wallClonesWrong : ChangeSpec := { name := "wallClones", fn := fun _ => fun
  | [d1, d2, d3, d4] => { results := [.lit (.bool false)], args := [d1, d2, d3, d4] }
  | _ => none }
def WallClonesWrongFalsely : Prop := wallClonesRow.holds Try.pinned (OpenSpec.ofChange wallClonesWrong)

/-- 'beadlelaw31.RolesReaches': WHATEVER THE INPUT: true; the input reads as it did. -/
def rolesReachesSpec : ChangeSpec := { name := "rolesReaches", fn := fun _ => fun
  | [d1, d2, d3] => { results := [.lit (.bool true)], args := [d1, d2, d3] }
  | _ => none }
def rolesReachesRow : OpenClaim := { program := "ytijfebipalhhjaa", sum := "9d4b90ed8b627fa9c56a5f6950e4e5c9d3ff60eebea222b7db24ba279e7c9015", func := "beadle/beadlelaw31.RolesReaches", spec := "rolesReaches", unfollowed := true, recurses := true, plainKeys := false, apart := false }
def RolesReachesSaid : Prop := rolesReachesRow.holds Try.pinned (OpenSpec.ofChange rolesReachesSpec)

/-- ITS FALSE NEIGHBOUR: 'it returns false'. Refute it at one input. -/
def rolesReachesWrong : ChangeSpec := { name := "rolesReaches", fn := fun _ => fun
  | [d1, d2, d3] => { results := [.lit (.bool false)], args := [d1, d2, d3] }
  | _ => none }
def RolesReachesWrongFalsely : Prop := rolesReachesRow.holds Try.pinned (OpenSpec.ofChange rolesReachesWrong)

/-- 'beadlelaw31.RolesChecks': WHATEVER THE INPUT: true; the input reads as it did. -/
def rolesChecksSpec : ChangeSpec := { name := "rolesChecks", fn := fun _ => fun
  | [d] => { results := [.lit (.bool true)], args := [d] }
  | _ => none }
def rolesChecksRow : OpenClaim := { program := "ytijfebipalhhjaa", sum := "9d4b90ed8b627fa9c56a5f6950e4e5c9d3ff60eebea222b7db24ba279e7c9015", func := "beadle/beadlelaw31.RolesChecks", spec := "rolesChecks", unfollowed := true, recurses := true, plainKeys := false, apart := false }
def RolesChecksSaid : Prop := rolesChecksRow.holds Try.pinned (OpenSpec.ofChange rolesChecksSpec)

/-- ITS FALSE NEIGHBOUR: 'it returns false'. Refute it at one input. -/
def rolesChecksWrong : ChangeSpec := { name := "rolesChecks", fn := fun _ => fun
  | [d] => { results := [.lit (.bool false)], args := [d] }
  | _ => none }
def RolesChecksWrongFalsely : Prop := rolesChecksRow.holds Try.pinned (OpenSpec.ofChange rolesChecksWrong)

/-- 'beadlelaw31.RolesLevels': WHATEVER THE INPUT: true; the input reads as it did. -/
def rolesLevelsSpec : ChangeSpec := { name := "rolesLevels", fn := fun _ => fun
  | [d1, d2] => { results := [.lit (.bool true)], args := [d1, d2] }
  | _ => none }
def rolesLevelsRow : OpenClaim := { program := "ytijfebipalhhjaa", sum := "9d4b90ed8b627fa9c56a5f6950e4e5c9d3ff60eebea222b7db24ba279e7c9015", func := "beadle/beadlelaw31.RolesLevels", spec := "rolesLevels", unfollowed := true, recurses := true, plainKeys := false, apart := false }
def RolesLevelsSaid : Prop := rolesLevelsRow.holds Try.pinned (OpenSpec.ofChange rolesLevelsSpec)

/-- ITS FALSE NEIGHBOUR: 'it returns false'. Refute it at one input. -/
def rolesLevelsWrong : ChangeSpec := { name := "rolesLevels", fn := fun _ => fun
  | [d1, d2] => { results := [.lit (.bool false)], args := [d1, d2] }
  | _ => none }
def RolesLevelsWrongFalsely : Prop := rolesLevelsRow.holds Try.pinned (OpenSpec.ofChange rolesLevelsWrong)

/-- 'beadlelaw31.RolesReduces': WHATEVER THE INPUT: true; the input reads as it did. -/
def rolesReducesSpec : ChangeSpec := { name := "rolesReduces", fn := fun _ => fun
  | [d1, d2] => { results := [.lit (.bool true)], args := [d1, d2] }
  | _ => none }
def rolesReducesRow : OpenClaim := { program := "ytijfebipalhhjaa", sum := "9d4b90ed8b627fa9c56a5f6950e4e5c9d3ff60eebea222b7db24ba279e7c9015", func := "beadle/beadlelaw31.RolesReduces", spec := "rolesReduces", unfollowed := true, recurses := true, plainKeys := false, apart := false }
def RolesReducesSaid : Prop := rolesReducesRow.holds Try.pinned (OpenSpec.ofChange rolesReducesSpec)

/-- ITS FALSE NEIGHBOUR: 'it returns false'. Refute it at one input. -/
def rolesReducesWrong : ChangeSpec := { name := "rolesReduces", fn := fun _ => fun
  | [d1, d2] => { results := [.lit (.bool false)], args := [d1, d2] }
  | _ => none }
def RolesReducesWrongFalsely : Prop := rolesReducesRow.holds Try.pinned (OpenSpec.ofChange rolesReducesWrong)

/- THE SECOND FORM. 'bulk': how many values and letters a reading holds, each counted each time it is reached (what is shared counts as often as it is met; a slice's spare places count too). A statement '..UptoSaid' is the law's where the arguments, and the package variables that the reading takes, are together of bulk at most 1048576: NARROWER than '..Said'. Prove '..Said' where nothing that the law and all that it calls make is longer than what came in: it says more and counts as full. Else prove '..UptoSaid'. A law counts once. -/
mutual
def uptoBulk {H : Type} : DataW H → Nat
  | .lit (.string bytes) => bytes.length + 1
  | .lit _ => 1
  | .nil => 1
  | .ptr d => uptoBulk d + 1
  | .slice elems spare => uptoBulkAll elems + uptoBulkAll spare + 1
  | .agg parts => uptoBulkAll parts + 1
  | .iface _ d => uptoBulk d + 1
  | .map entries => uptoBulkEntries entries + 1
  | .held _ => 1
def uptoBulkAll {H : Type} : List (DataW H) → Nat
  | [] => 0
  | d :: r => uptoBulk d + uptoBulkAll r
def uptoBulkEntries {H : Type} : List (Lit × DataW H) → Nat
  | [] => 0
  | x :: r => uptoBulkEntry x + uptoBulkEntries r
def uptoBulkEntry {H : Type} : Lit × DataW H → Nat
  | (.string bytes, d) => bytes.length + uptoBulk d + 1
  | (_, d) => uptoBulk d + 1
 end
def uptoSmall : (H : Type) → List (DataW H) → Bool := fun _ ds => decide (uptoBulkAll ds ≤ 1048576)
def OpenSpec.upto (s : _root_.Go.ChangeSpec) : _root_.Go.OpenSpec := { _root_.Go.OpenSpec.ofChange s with cond := some uptoSmall }

/-- 'beadlelaw05.StoreRuns', WHERE WHAT IT READS IS OF BULK AT MOST 1048576: true; the input reads as it did. -/
def storeRunsUptoRow : OpenClaim := { program := "ytijfebipalhhjaa", sum := "9d4b90ed8b627fa9c56a5f6950e4e5c9d3ff60eebea222b7db24ba279e7c9015", func := "beadle/beadlelaw05.StoreRuns", spec := "storeRuns", unfollowed := true, recurses := true, plainKeys := false, apart := false, narrowed := true }
def StoreRunsUptoSaid : Prop := storeRunsUptoRow.holds Try.pinned (OpenSpec.upto storeRunsSpec)

/-- 'beadlelaw05.StoreClones', WHERE WHAT IT READS IS OF BULK AT MOST 1048576: true; the input reads as it did. -/
def storeClonesUptoRow : OpenClaim := { program := "ytijfebipalhhjaa", sum := "9d4b90ed8b627fa9c56a5f6950e4e5c9d3ff60eebea222b7db24ba279e7c9015", func := "beadle/beadlelaw05.StoreClones", spec := "storeClones", inPlace := ["maps.clone"], unfollowed := true, recurses := true, plainKeys := false, apart := false, narrowed := true }
def StoreClonesUptoSaid : Prop := storeClonesUptoRow.holds Try.pinned (OpenSpec.upto storeClonesSpec)

/-- 'beadlelaw05.StoreKeeps', WHERE WHAT IT READS IS OF BULK AT MOST 1048576: true; the input reads as it did. -/
def storeKeepsUptoRow : OpenClaim := { program := "ytijfebipalhhjaa", sum := "9d4b90ed8b627fa9c56a5f6950e4e5c9d3ff60eebea222b7db24ba279e7c9015", func := "beadle/beadlelaw05.StoreKeeps", spec := "storeKeeps", unfollowed := true, recurses := true, plainKeys := false, apart := false, narrowed := true }
def StoreKeepsUptoSaid : Prop := storeKeepsUptoRow.holds Try.pinned (OpenSpec.upto storeKeepsSpec)

/-- 'beadlelaw05.StoreNobody', WHERE WHAT IT READS IS OF BULK AT MOST 1048576: true; the input reads as it did. -/
def storeNobodyUptoRow : OpenClaim := { program := "ytijfebipalhhjaa", sum := "9d4b90ed8b627fa9c56a5f6950e4e5c9d3ff60eebea222b7db24ba279e7c9015", func := "beadle/beadlelaw05.StoreNobody", spec := "storeNobody", inPlace := ["maps.clone"], unfollowed := true, recurses := true, plainKeys := false, apart := false, narrowed := true }
def StoreNobodyUptoSaid : Prop := storeNobodyUptoRow.holds Try.pinned (OpenSpec.upto storeNobodySpec)

/-- 'beadlelaw33.WallRuns', WHERE WHAT IT READS IS OF BULK AT MOST 1048576: true; the input reads as it did. -/
def wallRunsUptoRow : OpenClaim := { program := "ytijfebipalhhjaa", sum := "9d4b90ed8b627fa9c56a5f6950e4e5c9d3ff60eebea222b7db24ba279e7c9015", func := "beadle/beadlelaw33.WallRuns", spec := "wallRuns", recurses := true, plainKeys := false, apart := false, narrowed := true }
def WallRunsUptoSaid : Prop := wallRunsUptoRow.holds Try.pinned (OpenSpec.upto wallRunsSpec)

/-- 'beadlelaw33.WallNever', WHERE WHAT IT READS IS OF BULK AT MOST 1048576: true; the input reads as it did. -/
def wallNeverUptoRow : OpenClaim := { program := "ytijfebipalhhjaa", sum := "9d4b90ed8b627fa9c56a5f6950e4e5c9d3ff60eebea222b7db24ba279e7c9015", func := "beadle/beadlelaw33.WallNever", spec := "wallNever", recurses := true, plainKeys := false, apart := false, narrowed := true }
def WallNeverUptoSaid : Prop := wallNeverUptoRow.holds Try.pinned (OpenSpec.upto wallNeverSpec)

/-- 'beadlelaw33.WallKeeps', WHERE WHAT IT READS IS OF BULK AT MOST 1048576: true; the input reads as it did. -/
def wallKeepsUptoRow : OpenClaim := { program := "ytijfebipalhhjaa", sum := "9d4b90ed8b627fa9c56a5f6950e4e5c9d3ff60eebea222b7db24ba279e7c9015", func := "beadle/beadlelaw33.WallKeeps", spec := "wallKeeps", recurses := true, plainKeys := false, apart := false, narrowed := true }
def WallKeepsUptoSaid : Prop := wallKeepsUptoRow.holds Try.pinned (OpenSpec.upto wallKeepsSpec)

/-- 'beadlelaw33.WallClones', WHERE WHAT IT READS IS OF BULK AT MOST 1048576: true; the input reads as it did. -/
def wallClonesUptoRow : OpenClaim := { program := "ytijfebipalhhjaa", sum := "9d4b90ed8b627fa9c56a5f6950e4e5c9d3ff60eebea222b7db24ba279e7c9015", func := "beadle/beadlelaw33.WallClones", spec := "wallClones", inPlace := ["maps.clone"], recurses := true, plainKeys := false, apart := false, narrowed := true }
def WallClonesUptoSaid : Prop := wallClonesUptoRow.holds Try.pinned (OpenSpec.upto wallClonesSpec)

/-- 'beadlelaw31.RolesReaches', WHERE WHAT IT READS IS OF BULK AT MOST 1048576: true; the input reads as it did. -/
def rolesReachesUptoRow : OpenClaim := { program := "ytijfebipalhhjaa", sum := "9d4b90ed8b627fa9c56a5f6950e4e5c9d3ff60eebea222b7db24ba279e7c9015", func := "beadle/beadlelaw31.RolesReaches", spec := "rolesReaches", unfollowed := true, recurses := true, plainKeys := false, apart := false, narrowed := true }
def RolesReachesUptoSaid : Prop := rolesReachesUptoRow.holds Try.pinned (OpenSpec.upto rolesReachesSpec)

/-- 'beadlelaw31.RolesChecks', WHERE WHAT IT READS IS OF BULK AT MOST 1048576: true; the input reads as it did. -/
def rolesChecksUptoRow : OpenClaim := { program := "ytijfebipalhhjaa", sum := "9d4b90ed8b627fa9c56a5f6950e4e5c9d3ff60eebea222b7db24ba279e7c9015", func := "beadle/beadlelaw31.RolesChecks", spec := "rolesChecks", unfollowed := true, recurses := true, plainKeys := false, apart := false, narrowed := true }
def RolesChecksUptoSaid : Prop := rolesChecksUptoRow.holds Try.pinned (OpenSpec.upto rolesChecksSpec)

/-- 'beadlelaw31.RolesLevels', WHERE WHAT IT READS IS OF BULK AT MOST 1048576: true; the input reads as it did. -/
def rolesLevelsUptoRow : OpenClaim := { program := "ytijfebipalhhjaa", sum := "9d4b90ed8b627fa9c56a5f6950e4e5c9d3ff60eebea222b7db24ba279e7c9015", func := "beadle/beadlelaw31.RolesLevels", spec := "rolesLevels", unfollowed := true, recurses := true, plainKeys := false, apart := false, narrowed := true }
def RolesLevelsUptoSaid : Prop := rolesLevelsUptoRow.holds Try.pinned (OpenSpec.upto rolesLevelsSpec)

/-- 'beadlelaw31.RolesReduces', WHERE WHAT IT READS IS OF BULK AT MOST 1048576: true; the input reads as it did. -/
def rolesReducesUptoRow : OpenClaim := { program := "ytijfebipalhhjaa", sum := "9d4b90ed8b627fa9c56a5f6950e4e5c9d3ff60eebea222b7db24ba279e7c9015", func := "beadle/beadlelaw31.RolesReduces", spec := "rolesReduces", unfollowed := true, recurses := true, plainKeys := false, apart := false, narrowed := true }
def RolesReducesUptoSaid : Prop := rolesReducesUptoRow.holds Try.pinned (OpenSpec.upto rolesReducesSpec)

end Rows
end Go.Proofs.Ytijfebipalhhjaa
