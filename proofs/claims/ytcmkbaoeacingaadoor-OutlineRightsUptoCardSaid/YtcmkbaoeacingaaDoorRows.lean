/-
  NARROWER THAN 'FOR EVERY INPUT', by the rows' own cells (each row's printed sentence says how): OutlineVerdicts: laid · OutlineRights: loops, laid.
  DERIVED. THE GIVEN ROWS OF THIS SEAT. 2 by the template 'for every input the law returns true; each argument reads behind the call as it read before'; 0 by the template 'total and deterministic' (their statements: YtcmkbaoeacingaaDoorTotals.lean).
  GIVEN WITH THE SEED: the statements are not yours to turn. If you find one false, say at which input.
  Laid BY PROGRAM, IN A SANDBOX (cutbox-rows.mjs): the forced cells as the released guide's own fill.sh prints them over the translation f43931076886d34e… (all of the seat's roots in one cut). By AI agents, Wed Nov 11 2026. No macro, syntax, notation, axiom, sorry.
-/
import Derived.Test.YtcmkbaoeacingaaDoorChecked
import GoSem.Claim
import GoSem.ClaimJoined
import GoSem.ClaimMapViews
import Derived.JoinedTies
import Derived.KernelRfl
namespace Go.Proofs.YtcmkbaoeacingaaDoor
/- THE CELL 'sum', in the pinned program and in every row, IS THE sha256 OF THE DUMP (.gsa) THAT YtcmkbaoeacingaaDoorProg.lean LOADS. Nothing in Lean hashes anything: it is a label: what it is worth is what the hold of that sum in a sandbox is worth. -/
noncomputable def Tryd.pinned : Pinned := { name := "ytcmkbaoeacingaadoor", sum := "f43931076886d34e86fa5efe21be2a78212113b487cf1f0c1f282bca175d9d0c", checked := Tryd.checked }
namespace Rows
def none {H : Type} : Left H := { results := [], args := [] }

/- WHAT THE LISTED PACKAGE-LEVEL VARIABLES READ AS WHEN THE CALL BEGINS. Each datum BY PROGRAM (the guide's laid-datum.mjs) off the statement by which the dump's own 'gosem.cut.vars' lays the variable. In a bare row this is a premise. The card (YtcmkbaoeacingaaDoorCards.lean) ties it to the program's text. -/
def laid_beadle_outline_verdicts {H : Type} : DataW H := .agg [.lit (.string []), .lit (.string [103, 114, 97, 110, 116]), .lit (.string [100, 101, 110, 121]), .lit (.string [103, 111]), .lit (.string [114, 101, 118, 111, 107, 101]), .lit (.string [101, 110, 100])]

/-- 'beadlelaw37.OutlineVerdicts': WHATEVER THE INPUT: true; the input reads as it did. -/
def outlineVerdictsSpec : ChangeSpec := { name := "outlineVerdicts", fn := fun _ => fun
  | [d1, d2] => { results := [.lit (.bool true)], args := [d1, d2] }
  | _ => none }
def outlineVerdictsRow : OpenClaim := { program := "ytcmkbaoeacingaadoor", sum := "f43931076886d34e86fa5efe21be2a78212113b487cf1f0c1f282bca175d9d0c", func := "beadle/beadlelaw37.OutlineVerdicts", spec := "outlineVerdicts", inPlace := ["internal/abi.NoEscape", "internal/bytealg.MakeNoZero"], unfollowed := true, recurses := true, named := ["beadle/outline.verdicts"], apart := false, laid := [("beadle/outline.verdicts", laid_beadle_outline_verdicts)] }
def OutlineVerdictsSaid : Prop := outlineVerdictsRow.holds Tryd.pinned (OpenSpec.ofChange outlineVerdictsSpec)

/-- ITS FALSE NEIGHBOUR: 'it returns false'. Refute it at one input. -/
def outlineVerdictsWrong : ChangeSpec := { name := "outlineVerdicts", fn := fun _ => fun
  | [d1, d2] => { results := [.lit (.bool false)], args := [d1, d2] }
  | _ => none }
def OutlineVerdictsWrongFalsely : Prop := outlineVerdictsRow.holds Tryd.pinned (OpenSpec.ofChange outlineVerdictsWrong)

/-- 'beadlelaw37.OutlineRights': WHATEVER THE INPUT: true; the input reads as it did. -/
def outlineRightsSpec : ChangeSpec := { name := "outlineRights", fn := fun _ => fun
  | [d] => { results := [.lit (.bool true)], args := [d] }
  | _ => none }
def outlineRightsRow : OpenClaim := { program := "ytcmkbaoeacingaadoor", sum := "f43931076886d34e86fa5efe21be2a78212113b487cf1f0c1f282bca175d9d0c", func := "beadle/beadlelaw37.OutlineRights", spec := "outlineRights", inPlace := ["internal/abi.NoEscape", "internal/bytealg.MakeNoZero"], unfollowed := true, recurses := true, named := ["beadle/outline.verdicts"], loops := true, apart := false, laid := [("beadle/outline.verdicts", laid_beadle_outline_verdicts)] }
def OutlineRightsSaid : Prop := outlineRightsRow.holds Tryd.pinned (OpenSpec.ofChange outlineRightsSpec)

/-- ITS FALSE NEIGHBOUR: 'it returns false'. Refute it at one input. -/
def outlineRightsWrong : ChangeSpec := { name := "outlineRights", fn := fun _ => fun
  | [d] => { results := [.lit (.bool false)], args := [d] }
  | _ => none }
def OutlineRightsWrongFalsely : Prop := outlineRightsRow.holds Tryd.pinned (OpenSpec.ofChange outlineRightsWrong)

/- THE SECOND FORM. 'bulk': how many values and letters a reading holds, each counted each time it is reached (what is shared counts as often as it is met; a slice's spare places count too). A statement '..UptoSaid' is the law's where the arguments, and the package variables that the reading takes, are together of bulk at most 1048576: NARROWER than '..Said'. Prove '..Said' where nothing that the law and all that it calls make is longer than what came in: it says more and counts as full. Else prove '..UptoSaid'. A law counts once. -/
mutual
def uptoBulk {H : Type} : DataW H → Nat
  | .lit (.string bytes) => bytes.length + 1
  | .lit _ => 1
  | .nil => 1
  | .ptr d => uptoBulk d + 1
  | .slice elems spare => uptoBulkAll elems + uptoBulkAll spare + 1
  | .agg parts => uptoBulkAll parts + 1
  | .iface _ d => uptoBulk d + 1
  | .map entries => uptoBulkEntries entries + 1
  | .held _ => 1
def uptoBulkAll {H : Type} : List (DataW H) → Nat
  | [] => 0
  | d :: r => uptoBulk d + uptoBulkAll r
def uptoBulkEntries {H : Type} : List (Lit × DataW H) → Nat
  | [] => 0
  | x :: r => uptoBulkEntry x + uptoBulkEntries r
def uptoBulkEntry {H : Type} : Lit × DataW H → Nat
  | (.string bytes, d) => bytes.length + uptoBulk d + 1
  | (_, d) => uptoBulk d + 1
 end
def uptoSmall : (H : Type) → List (DataW H) → Bool := fun _ ds => decide (uptoBulkAll ds ≤ 1048576)
def OpenSpec.upto (s : _root_.Go.ChangeSpec) : _root_.Go.OpenSpec := { _root_.Go.OpenSpec.ofChange s with cond := some uptoSmall }

/-- 'beadlelaw37.OutlineVerdicts', WHERE WHAT IT READS IS OF BULK AT MOST 1048576: true; the input reads as it did. -/
def outlineVerdictsUptoRow : OpenClaim := { program := "ytcmkbaoeacingaadoor", sum := "f43931076886d34e86fa5efe21be2a78212113b487cf1f0c1f282bca175d9d0c", func := "beadle/beadlelaw37.OutlineVerdicts", spec := "outlineVerdicts", inPlace := ["internal/abi.NoEscape", "internal/bytealg.MakeNoZero"], unfollowed := true, recurses := true, named := ["beadle/outline.verdicts"], apart := false, laid := [("beadle/outline.verdicts", laid_beadle_outline_verdicts)], narrowed := true }
def OutlineVerdictsUptoSaid : Prop := outlineVerdictsUptoRow.holds Tryd.pinned (OpenSpec.upto outlineVerdictsSpec)

/-- 'beadlelaw37.OutlineRights', WHERE WHAT IT READS IS OF BULK AT MOST 1048576: true; the input reads as it did. -/
def outlineRightsUptoRow : OpenClaim := { program := "ytcmkbaoeacingaadoor", sum := "f43931076886d34e86fa5efe21be2a78212113b487cf1f0c1f282bca175d9d0c", func := "beadle/beadlelaw37.OutlineRights", spec := "outlineRights", inPlace := ["internal/abi.NoEscape", "internal/bytealg.MakeNoZero"], unfollowed := true, recurses := true, named := ["beadle/outline.verdicts"], loops := true, apart := false, laid := [("beadle/outline.verdicts", laid_beadle_outline_verdicts)], narrowed := true }
def OutlineRightsUptoSaid : Prop := outlineRightsUptoRow.holds Tryd.pinned (OpenSpec.upto outlineRightsSpec)

end Rows
end Go.Proofs.YtcmkbaoeacingaaDoor
