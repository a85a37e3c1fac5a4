/-
  DERIVED. GIVEN WITH THE SEED: THE CARDS: each row of YtcmkbaoeacingaaDoorRows.lean that lists a variable, with what it lists TIED to the program's text (the seventh form; the later family's looks); each row that meets fmt, with fmt's text TOLD by the authors' own Lean function (tested against real Go, not proved from fmt's source: count such statements apart). THE CARD IS WHAT COUNTS. Prove the row's statement (the work); the ties are given (YtcmkbaoeacingaaDoorTie.lean); close each card by the builder's one call (the guide's Derived/Test/ToyasCard.lean, 'card_holds'). Laid BY PROGRAM, IN A SANDBOX (cutbox-door.mjs). By AI agents, Wed Nov 11 2026. No macro, syntax, notation, axiom, sorry.
-/
import Derived.Test.YtcmkbaoeacingaaDoorRows
import GoSem.ClaimSeven
namespace Go.Proofs.YtcmkbaoeacingaaDoor
namespace Rows

/-- THE TIED CARD OF 'beadlelaw37.OutlineVerdicts'. -/
def outlineVerdictsCard : Claim7 := { stood := { row := outlineVerdictsRow, standIns := [], harness := (true, "1943e3316de66fb8daea55697cb05691de0b19cd9a129a84f2da3beae105698f"), looks := false }, kinds := [], alts := [], laidByText := true, laidKinds := [.data], laidTests := true, laidLooks := .later }
def OutlineVerdictsCardSaid : Prop := Claim7.holds Tryd.pinned (.plain (OpenSpec.ofChange outlineVerdictsSpec)) outlineVerdictsCard

/-- THE TIED CARD OF 'beadlelaw37.OutlineRights'. -/
def outlineRightsCard : Claim7 := { stood := { row := outlineRightsRow, standIns := [], harness := (true, "1943e3316de66fb8daea55697cb05691de0b19cd9a129a84f2da3beae105698f"), looks := false }, kinds := [], alts := [], laidByText := true, laidKinds := [.data], laidTests := true, laidLooks := .later }
def OutlineRightsCardSaid : Prop := Claim7.holds Tryd.pinned (.plain (OpenSpec.ofChange outlineRightsSpec)) outlineRightsCard

/-- THE SECOND FORM's CARD OF 'beadlelaw37.OutlineVerdicts'. -/
def outlineVerdictsUptoCard : Claim7 := { stood := { row := outlineVerdictsUptoRow, standIns := [], harness := (true, "1943e3316de66fb8daea55697cb05691de0b19cd9a129a84f2da3beae105698f"), looks := false }, kinds := [], alts := [], laidByText := true, laidKinds := [.data], laidTests := true, laidLooks := .later }
def OutlineVerdictsUptoCardSaid : Prop := Claim7.holds Tryd.pinned (.plain (OpenSpec.upto outlineVerdictsSpec)) outlineVerdictsUptoCard

/-- THE SECOND FORM's CARD OF 'beadlelaw37.OutlineRights'. -/
def outlineRightsUptoCard : Claim7 := { stood := { row := outlineRightsUptoRow, standIns := [], harness := (true, "1943e3316de66fb8daea55697cb05691de0b19cd9a129a84f2da3beae105698f"), looks := false }, kinds := [], alts := [], laidByText := true, laidKinds := [.data], laidTests := true, laidLooks := .later }
def OutlineRightsUptoCardSaid : Prop := Claim7.holds Tryd.pinned (.plain (OpenSpec.upto outlineRightsSpec)) outlineRightsUptoCard
end Rows
end Go.Proofs.YtcmkbaoeacingaaDoor
