/-
  NARROWER THAN 'FOR EVERY INPUT', by the rows' own cells (each row's printed sentence says how): ReadsTells: loops · ReadsRight: loops · PrintTells: loops.
  DERIVED. THE GIVEN ROWS OF THIS SEAT. 12 by the template 'for every input the law returns true; each argument reads behind the call as it read before'; 0 by the template 'total and deterministic' (their statements: YtiaackeooiemjaaTotals.lean).
  GIVEN WITH THE SEED: the statements are not yours to turn. If you find one false, say at which input.
  Laid BY PROGRAM, IN A SANDBOX (cutbox-rows.mjs): the forced cells as the released guide's own fill.sh prints them over the translation de26e4aabf2ed073… (all of the seat's roots in one cut). By AI agents, Wed Nov 11 2026. No macro, syntax, notation, axiom, sorry.
-/
import Derived.Test.YtiaackeooiemjaaChecked
import GoSem.Claim
import GoSem.ClaimJoined
import GoSem.ClaimMapViews
import Derived.JoinedTies
import Derived.KernelRfl
namespace Go.Proofs.Ytiaackeooiemjaa
/- THE CELL 'sum', in the pinned program and in every row, IS THE sha256 OF THE DUMP (.gsa) THAT YtiaackeooiemjaaProg.lean LOADS. Nothing in Lean hashes anything: it is a label: what it is worth is what the hold of that sum in a sandbox is worth. -/
noncomputable def Try.pinned : Pinned := { name := "ytiaackeooiemjaa", sum := "de26e4aabf2ed073c817e97f26a93277824ee3ef675b7e46c07ec3fb167864fd", checked := Try.checked }
namespace Rows
def none {H : Type} : Left H := { results := [], args := [] }

/-- 'beadlelaw24.RecordOf': WHATEVER THE INPUT: true; the input reads as it did. -/
def recordOfSpec : ChangeSpec := { name := "recordOf", fn := fun _ => fun
  | [d1, d2] => { results := [.lit (.bool true)], args := [d1, d2] }
  | _ => none }
def recordOfRow : OpenClaim := { program := "ytiaackeooiemjaa", sum := "de26e4aabf2ed073c817e97f26a93277824ee3ef675b7e46c07ec3fb167864fd", func := "beadle/beadlelaw24.RecordOf", spec := "recordOf", unfollowed := true, recurses := true, apart := false }
def RecordOfSaid : Prop := recordOfRow.holds Try.pinned (OpenSpec.ofChange recordOfSpec)

/-- ITS FALSE NEIGHBOUR: 'it returns false'. Refute it at one input. -/
def recordOfWrong : ChangeSpec := { name := "recordOf", fn := fun _ => fun
  | [d1, d2] => { results := [.lit (.bool false)], args := [d1, d2] }
  | _ => none }
def RecordOfWrongFalsely : Prop := recordOfRow.holds Try.pinned (OpenSpec.ofChange recordOfWrong)

/-- 'beadlelaw24.RecordWrites': WHATEVER THE INPUT: true; the input reads as it did. -/
def recordWritesSpec : ChangeSpec := { name := "recordWrites", fn := fun _ => fun
  | [d] => { results := [.lit (.bool true)], args := [d] }
  | _ => none }
def recordWritesRow : OpenClaim := { program := "ytiaackeooiemjaa", sum := "de26e4aabf2ed073c817e97f26a93277824ee3ef675b7e46c07ec3fb167864fd", func := "beadle/beadlelaw24.RecordWrites", spec := "recordWrites", unfollowed := true, recurses := true, apart := false }
def RecordWritesSaid : Prop := recordWritesRow.holds Try.pinned (OpenSpec.ofChange recordWritesSpec)

/-- ITS FALSE NEIGHBOUR: 'it returns false'. Refute it at one input. -/
def recordWritesWrong : ChangeSpec := { name := "recordWrites", fn := fun _ => fun
  | [d] => { results := [.lit (.bool false)], args := [d] }
  | _ => none }
def RecordWritesWrongFalsely : Prop := recordWritesRow.holds Try.pinned (OpenSpec.ofChange recordWritesWrong)

/-- 'beadlelaw24.RecordReads': WHATEVER THE INPUT: true; the input reads as it did. -/
def recordReadsSpec : ChangeSpec := { name := "recordReads", fn := fun _ => fun
  | [d] => { results := [.lit (.bool true)], args := [d] }
  | _ => none }
def recordReadsRow : OpenClaim := { program := "ytiaackeooiemjaa", sum := "de26e4aabf2ed073c817e97f26a93277824ee3ef675b7e46c07ec3fb167864fd", func := "beadle/beadlelaw24.RecordReads", spec := "recordReads", unfollowed := true, recurses := true, apart := false }
def RecordReadsSaid : Prop := recordReadsRow.holds Try.pinned (OpenSpec.ofChange recordReadsSpec)

/-- ITS FALSE NEIGHBOUR: 'it returns false'. Refute it at one input. -/
def recordReadsWrong : ChangeSpec := { name := "recordReads", fn := fun _ => fun
  | [d] => { results := [.lit (.bool false)], args := [d] }
  | _ => none }
def RecordReadsWrongFalsely : Prop := recordReadsRow.holds Try.pinned (OpenSpec.ofChange recordReadsWrong)

/-- 'beadlelaw24.RecordBack': WHATEVER THE INPUT: true; the input reads as it did. -/
def recordBackSpec : ChangeSpec := { name := "recordBack", fn := fun _ => fun
  | [d1, d2] => { results := [.lit (.bool true)], args := [d1, d2] }
  | _ => none }
def recordBackRow : OpenClaim := { program := "ytiaackeooiemjaa", sum := "de26e4aabf2ed073c817e97f26a93277824ee3ef675b7e46c07ec3fb167864fd", func := "beadle/beadlelaw24.RecordBack", spec := "recordBack", unfollowed := true, recurses := true, apart := false }
def RecordBackSaid : Prop := recordBackRow.holds Try.pinned (OpenSpec.ofChange recordBackSpec)

/-- ITS FALSE NEIGHBOUR: 'it returns false'. Refute it at one input. -/
def recordBackWrong : ChangeSpec := { name := "recordBack", fn := fun _ => fun
  | [d1, d2] => { results := [.lit (.bool false)], args := [d1, d2] }
  | _ => none }
def RecordBackWrongFalsely : Prop := recordBackRow.holds Try.pinned (OpenSpec.ofChange recordBackWrong)

/-- 'beadlelaw32.LatticeTells': WHATEVER THE INPUT: true; the input reads as it did. -/
def latticeTellsSpec : ChangeSpec := { name := "latticeTells", fn := fun _ => fun
  | [d1, d2, d3] => { results := [.lit (.bool true)], args := [d1, d2, d3] }
  | _ => none }
def latticeTellsRow : OpenClaim := { program := "ytiaackeooiemjaa", sum := "de26e4aabf2ed073c817e97f26a93277824ee3ef675b7e46c07ec3fb167864fd", func := "beadle/beadlelaw32.LatticeTells", spec := "latticeTells", recurses := true, apart := false }
def LatticeTellsSaid : Prop := latticeTellsRow.holds Try.pinned (OpenSpec.ofChange latticeTellsSpec)

/-- ITS FALSE NEIGHBOUR: 'it returns false'. Refute it at one input. -/
def latticeTellsWrong : ChangeSpec := { name := "latticeTells", fn := fun _ => fun
  | [d1, d2, d3] => { results := [.lit (.bool false)], args := [d1, d2, d3] }
  | _ => none }
def LatticeTellsWrongFalsely : Prop := latticeTellsRow.holds Try.pinned (OpenSpec.ofChange latticeTellsWrong)

/-- 'beadlelaw32.LatticeLaws': WHATEVER THE INPUT: true; the input reads as it did. -/
def latticeLawsSpec : ChangeSpec := { name := "latticeLaws", fn := fun _ => fun
  | [d1, d2, d3] => { results := [.lit (.bool true)], args := [d1, d2, d3] }
  | _ => none }
def latticeLawsRow : OpenClaim := { program := "ytiaackeooiemjaa", sum := "de26e4aabf2ed073c817e97f26a93277824ee3ef675b7e46c07ec3fb167864fd", func := "beadle/beadlelaw32.LatticeLaws", spec := "latticeLaws", recurses := true, apart := false }
def LatticeLawsSaid : Prop := latticeLawsRow.holds Try.pinned (OpenSpec.ofChange latticeLawsSpec)

/-- ITS FALSE NEIGHBOUR: 'it returns false'. Refute it at one input. -/
def latticeLawsWrong : ChangeSpec := { name := "latticeLaws", fn := fun _ => fun
  | [d1, d2, d3] => { results := [.lit (.bool false)], args := [d1, d2, d3] }
  | _ => none }
def LatticeLawsWrongFalsely : Prop := latticeLawsRow.holds Try.pinned (OpenSpec.ofChange latticeLawsWrong)

/-- 'beadlelaw32.LatticeLeast': WHATEVER THE INPUT: true; the input reads as it did. -/
def latticeLeastSpec : ChangeSpec := { name := "latticeLeast", fn := fun _ => fun
  | [d1, d2, d3] => { results := [.lit (.bool true)], args := [d1, d2, d3] }
  | _ => none }
def latticeLeastRow : OpenClaim := { program := "ytiaackeooiemjaa", sum := "de26e4aabf2ed073c817e97f26a93277824ee3ef675b7e46c07ec3fb167864fd", func := "beadle/beadlelaw32.LatticeLeast", spec := "latticeLeast", recurses := true, apart := false }
def LatticeLeastSaid : Prop := latticeLeastRow.holds Try.pinned (OpenSpec.ofChange latticeLeastSpec)

/-- ITS FALSE NEIGHBOUR: 'it returns false'. Refute it at one input. -/
def latticeLeastWrong : ChangeSpec := { name := "latticeLeast", fn := fun _ => fun
  | [d1, d2, d3] => { results := [.lit (.bool false)], args := [d1, d2, d3] }
  | _ => none }
def LatticeLeastWrongFalsely : Prop := latticeLeastRow.holds Try.pinned (OpenSpec.ofChange latticeLeastWrong)

/-- 'beadlelaw32.LatticeFlows': WHATEVER THE INPUT: true; the input reads as it did. -/
def latticeFlowsSpec : ChangeSpec := { name := "latticeFlows", fn := fun _ => fun
  | [d1, d2, d3, d4, d5] => { results := [.lit (.bool true)], args := [d1, d2, d3, d4, d5] }
  | _ => none }
def latticeFlowsRow : OpenClaim := { program := "ytiaackeooiemjaa", sum := "de26e4aabf2ed073c817e97f26a93277824ee3ef675b7e46c07ec3fb167864fd", func := "beadle/beadlelaw32.LatticeFlows", spec := "latticeFlows", recurses := true, apart := false }
def LatticeFlowsSaid : Prop := latticeFlowsRow.holds Try.pinned (OpenSpec.ofChange latticeFlowsSpec)

/-- ITS FALSE NEIGHBOUR: 'it returns false'. Refute it at one input. -/
def latticeFlowsWrong : ChangeSpec := { name := "latticeFlows", fn := fun _ => fun
  | [d1, d2, d3, d4, d5] => { results := [.lit (.bool false)], args := [d1, d2, d3, d4, d5] }
  | _ => none }
def LatticeFlowsWrongFalsely : Prop := latticeFlowsRow.holds Try.pinned (OpenSpec.ofChange latticeFlowsWrong)

/-- 'beadlelaw12.ReadsTells': WHATEVER THE INPUT: true; the input reads as it did. -/
def readsTellsSpec : ChangeSpec := { name := "readsTells", fn := fun _ => fun
  | [d1, d2] => { results := [.lit (.bool true)], args := [d1, d2] }
  | _ => none }
def readsTellsRow : OpenClaim := { program := "ytiaackeooiemjaa", sum := "de26e4aabf2ed073c817e97f26a93277824ee3ef675b7e46c07ec3fb167864fd", func := "beadle/beadlelaw12.ReadsTells", spec := "readsTells", unfollowed := true, recurses := true, loops := true, apart := false }
def ReadsTellsSaid : Prop := readsTellsRow.holds Try.pinned (OpenSpec.ofChange readsTellsSpec)

/-- ITS FALSE NEIGHBOUR: 'it returns false'. Refute it at one input. -/
def readsTellsWrong : ChangeSpec := { name := "readsTells", fn := fun _ => fun
  | [d1, d2] => { results := [.lit (.bool false)], args := [d1, d2] }
  | _ => none }
def ReadsTellsWrongFalsely : Prop := readsTellsRow.holds Try.pinned (OpenSpec.ofChange readsTellsWrong)

/-- 'beadlelaw12.ReadsRight': WHATEVER THE INPUT: true; the input reads as it did. -/
def readsRightSpec : ChangeSpec := { name := "readsRight", fn := fun _ => fun
  | [d] => { results := [.lit (.bool true)], args := [d] }
  | _ => none }
def readsRightRow : OpenClaim := { program := "ytiaackeooiemjaa", sum := "de26e4aabf2ed073c817e97f26a93277824ee3ef675b7e46c07ec3fb167864fd", func := "beadle/beadlelaw12.ReadsRight", spec := "readsRight", unfollowed := true, recurses := true, loops := true, apart := false }
def ReadsRightSaid : Prop := readsRightRow.holds Try.pinned (OpenSpec.ofChange readsRightSpec)

/-- ITS FALSE NEIGHBOUR: 'it returns false'. Refute it at one input. -/
def readsRightWrong : ChangeSpec := { name := "readsRight", fn := fun _ => fun
  | [d] => { results := [.lit (.bool false)], args := [d] }
  | _ => none }
def ReadsRightWrongFalsely : Prop := readsRightRow.holds Try.pinned (OpenSpec.ofChange readsRightWrong)

/-- 'beadlelaw12.ReadsJoins': WHATEVER THE INPUT: true; the input reads as it did. -/
def readsJoinsSpec : ChangeSpec := { name := "readsJoins", fn := fun _ => fun
  | [d1, d2, d3] => { results := [.lit (.bool true)], args := [d1, d2, d3] }
  | _ => none }
def readsJoinsRow : OpenClaim := { program := "ytiaackeooiemjaa", sum := "de26e4aabf2ed073c817e97f26a93277824ee3ef675b7e46c07ec3fb167864fd", func := "beadle/beadlelaw12.ReadsJoins", spec := "readsJoins", unfollowed := true, recurses := true, apart := false }
def ReadsJoinsSaid : Prop := readsJoinsRow.holds Try.pinned (OpenSpec.ofChange readsJoinsSpec)

/-- ITS FALSE NEIGHBOUR: 'it returns false'. Refute it at one input. -/
def readsJoinsWrong : ChangeSpec := { name := "readsJoins", fn := fun _ => fun
  | [d1, d2, d3] => { results := [.lit (.bool false)], args := [d1, d2, d3] }
  | _ => none }
def ReadsJoinsWrongFalsely : Prop := readsJoinsRow.holds Try.pinned (OpenSpec.ofChange readsJoinsWrong)

/-- 'beadlelaw09.PrintTells': WHATEVER THE INPUT: true; the input reads as it did. -/
def printTellsSpec : ChangeSpec := { name := "printTells", fn := fun _ => fun
  | [d1, d2, d3, d4] => { results := [.lit (.bool true)], args := [d1, d2, d3, d4] }
  | _ => none }
def printTellsRow : OpenClaim := { program := "ytiaackeooiemjaa", sum := "de26e4aabf2ed073c817e97f26a93277824ee3ef675b7e46c07ec3fb167864fd", func := "beadle/beadlelaw09.PrintTells", spec := "printTells", inPlace := ["internal/abi.NoEscape"], recurses := true, loops := true, apart := false }
def PrintTellsSaid : Prop := printTellsRow.holds Try.pinned (OpenSpec.ofChange printTellsSpec)

/-- ITS FALSE NEIGHBOUR: 'it returns false'. Refute it at one input. -/
def printTellsWrong : ChangeSpec := { name := "printTells", fn := fun _ => fun
  | [d1, d2, d3, d4] => { results := [.lit (.bool false)], args := [d1, d2, d3, d4] }
  | _ => none }
def PrintTellsWrongFalsely : Prop := printTellsRow.holds Try.pinned (OpenSpec.ofChange printTellsWrong)

/- THE SECOND FORM. 'bulk': how many values and letters a reading holds, each counted each time it is reached (what is shared counts as often as it is met; a slice's spare places count too). A statement '..UptoSaid' is the law's where the arguments, and the package variables that the reading takes, are together of bulk at most 1048576: NARROWER than '..Said'. Prove '..Said' where nothing that the law and all that it calls make is longer than what came in: it says more and counts as full. Else prove '..UptoSaid'. A law counts once. -/
mutual
def uptoBulk {H : Type} : DataW H → Nat
  | .lit (.string bytes) => bytes.length + 1
  | .lit _ => 1
  | .nil => 1
  | .ptr d => uptoBulk d + 1
  | .slice elems spare => uptoBulkAll elems + uptoBulkAll spare + 1
  | .agg parts => uptoBulkAll parts + 1
  | .iface _ d => uptoBulk d + 1
  | .map entries => uptoBulkEntries entries + 1
  | .held _ => 1
def uptoBulkAll {H : Type} : List (DataW H) → Nat
  | [] => 0
  | d :: r => uptoBulk d + uptoBulkAll r
def uptoBulkEntries {H : Type} : List (Lit × DataW H) → Nat
  | [] => 0
  | x :: r => uptoBulkEntry x + uptoBulkEntries r
def uptoBulkEntry {H : Type} : Lit × DataW H → Nat
  | (.string bytes, d) => bytes.length + uptoBulk d + 1
  | (_, d) => uptoBulk d + 1
 end
def uptoSmall : (H : Type) → List (DataW H) → Bool := fun _ ds => decide (uptoBulkAll ds ≤ 1048576)
def OpenSpec.upto (s : _root_.Go.ChangeSpec) : _root_.Go.OpenSpec := { _root_.Go.OpenSpec.ofChange s with cond := some uptoSmall }

/-- 'beadlelaw24.RecordOf', WHERE WHAT IT READS IS OF BULK AT MOST 1048576: true; the input reads as it did. -/
def recordOfUptoRow : OpenClaim := { program := "ytiaackeooiemjaa", sum := "de26e4aabf2ed073c817e97f26a93277824ee3ef675b7e46c07ec3fb167864fd", func := "beadle/beadlelaw24.RecordOf", spec := "recordOf", unfollowed := true, recurses := true, apart := false, narrowed := true }
def RecordOfUptoSaid : Prop := recordOfUptoRow.holds Try.pinned (OpenSpec.upto recordOfSpec)

/-- 'beadlelaw24.RecordWrites', WHERE WHAT IT READS IS OF BULK AT MOST 1048576: true; the input reads as it did. -/
def recordWritesUptoRow : OpenClaim := { program := "ytiaackeooiemjaa", sum := "de26e4aabf2ed073c817e97f26a93277824ee3ef675b7e46c07ec3fb167864fd", func := "beadle/beadlelaw24.RecordWrites", spec := "recordWrites", unfollowed := true, recurses := true, apart := false, narrowed := true }
def RecordWritesUptoSaid : Prop := recordWritesUptoRow.holds Try.pinned (OpenSpec.upto recordWritesSpec)

/-- 'beadlelaw24.RecordReads', WHERE WHAT IT READS IS OF BULK AT MOST 1048576: true; the input reads as it did. -/
def recordReadsUptoRow : OpenClaim := { program := "ytiaackeooiemjaa", sum := "de26e4aabf2ed073c817e97f26a93277824ee3ef675b7e46c07ec3fb167864fd", func := "beadle/beadlelaw24.RecordReads", spec := "recordReads", unfollowed := true, recurses := true, apart := false, narrowed := true }
def RecordReadsUptoSaid : Prop := recordReadsUptoRow.holds Try.pinned (OpenSpec.upto recordReadsSpec)

/-- 'beadlelaw24.RecordBack', WHERE WHAT IT READS IS OF BULK AT MOST 1048576: true; the input reads as it did. -/
def recordBackUptoRow : OpenClaim := { program := "ytiaackeooiemjaa", sum := "de26e4aabf2ed073c817e97f26a93277824ee3ef675b7e46c07ec3fb167864fd", func := "beadle/beadlelaw24.RecordBack", spec := "recordBack", unfollowed := true, recurses := true, apart := false, narrowed := true }
def RecordBackUptoSaid : Prop := recordBackUptoRow.holds Try.pinned (OpenSpec.upto recordBackSpec)

/-- 'beadlelaw32.LatticeTells', WHERE WHAT IT READS IS OF BULK AT MOST 1048576: true; the input reads as it did. -/
def latticeTellsUptoRow : OpenClaim := { program := "ytiaackeooiemjaa", sum := "de26e4aabf2ed073c817e97f26a93277824ee3ef675b7e46c07ec3fb167864fd", func := "beadle/beadlelaw32.LatticeTells", spec := "latticeTells", recurses := true, apart := false, narrowed := true }
def LatticeTellsUptoSaid : Prop := latticeTellsUptoRow.holds Try.pinned (OpenSpec.upto latticeTellsSpec)

/-- 'beadlelaw32.LatticeLaws', WHERE WHAT IT READS IS OF BULK AT MOST 1048576: true; the input reads as it did. -/
def latticeLawsUptoRow : OpenClaim := { program := "ytiaackeooiemjaa", sum := "de26e4aabf2ed073c817e97f26a93277824ee3ef675b7e46c07ec3fb167864fd", func := "beadle/beadlelaw32.LatticeLaws", spec := "latticeLaws", recurses := true, apart := false, narrowed := true }
def LatticeLawsUptoSaid : Prop := latticeLawsUptoRow.holds Try.pinned (OpenSpec.upto latticeLawsSpec)

/-- 'beadlelaw32.LatticeLeast', WHERE WHAT IT READS IS OF BULK AT MOST 1048576: true; the input reads as it did. -/
def latticeLeastUptoRow : OpenClaim := { program := "ytiaackeooiemjaa", sum := "de26e4aabf2ed073c817e97f26a93277824ee3ef675b7e46c07ec3fb167864fd", func := "beadle/beadlelaw32.LatticeLeast", spec := "latticeLeast", recurses := true, apart := false, narrowed := true }
def LatticeLeastUptoSaid : Prop := latticeLeastUptoRow.holds Try.pinned (OpenSpec.upto latticeLeastSpec)

/-- 'beadlelaw32.LatticeFlows', WHERE WHAT IT READS IS OF BULK AT MOST 1048576: true; the input reads as it did. -/
def latticeFlowsUptoRow : OpenClaim := { program := "ytiaackeooiemjaa", sum := "de26e4aabf2ed073c817e97f26a93277824ee3ef675b7e46c07ec3fb167864fd", func := "beadle/beadlelaw32.LatticeFlows", spec := "latticeFlows", recurses := true, apart := false, narrowed := true }
def LatticeFlowsUptoSaid : Prop := latticeFlowsUptoRow.holds Try.pinned (OpenSpec.upto latticeFlowsSpec)

/-- 'beadlelaw12.ReadsTells', WHERE WHAT IT READS IS OF BULK AT MOST 1048576: true; the input reads as it did. -/
def readsTellsUptoRow : OpenClaim := { program := "ytiaackeooiemjaa", sum := "de26e4aabf2ed073c817e97f26a93277824ee3ef675b7e46c07ec3fb167864fd", func := "beadle/beadlelaw12.ReadsTells", spec := "readsTells", unfollowed := true, recurses := true, loops := true, apart := false, narrowed := true }
def ReadsTellsUptoSaid : Prop := readsTellsUptoRow.holds Try.pinned (OpenSpec.upto readsTellsSpec)

/-- 'beadlelaw12.ReadsRight', WHERE WHAT IT READS IS OF BULK AT MOST 1048576: true; the input reads as it did. -/
def readsRightUptoRow : OpenClaim := { program := "ytiaackeooiemjaa", sum := "de26e4aabf2ed073c817e97f26a93277824ee3ef675b7e46c07ec3fb167864fd", func := "beadle/beadlelaw12.ReadsRight", spec := "readsRight", unfollowed := true, recurses := true, loops := true, apart := false, narrowed := true }
def ReadsRightUptoSaid : Prop := readsRightUptoRow.holds Try.pinned (OpenSpec.upto readsRightSpec)

/-- 'beadlelaw12.ReadsJoins', WHERE WHAT IT READS IS OF BULK AT MOST 1048576: true; the input reads as it did. -/
def readsJoinsUptoRow : OpenClaim := { program := "ytiaackeooiemjaa", sum := "de26e4aabf2ed073c817e97f26a93277824ee3ef675b7e46c07ec3fb167864fd", func := "beadle/beadlelaw12.ReadsJoins", spec := "readsJoins", unfollowed := true, recurses := true, apart := false, narrowed := true }
def ReadsJoinsUptoSaid : Prop := readsJoinsUptoRow.holds Try.pinned (OpenSpec.upto readsJoinsSpec)

/-- 'beadlelaw09.PrintTells', WHERE WHAT IT READS IS OF BULK AT MOST 1048576: true; the input reads as it did. -/
def printTellsUptoRow : OpenClaim := { program := "ytiaackeooiemjaa", sum := "de26e4aabf2ed073c817e97f26a93277824ee3ef675b7e46c07ec3fb167864fd", func := "beadle/beadlelaw09.PrintTells", spec := "printTells", inPlace := ["internal/abi.NoEscape"], recurses := true, loops := true, apart := false, narrowed := true }
def PrintTellsUptoSaid : Prop := printTellsUptoRow.holds Try.pinned (OpenSpec.upto printTellsSpec)

end Rows
end Go.Proofs.Ytiaackeooiemjaa
