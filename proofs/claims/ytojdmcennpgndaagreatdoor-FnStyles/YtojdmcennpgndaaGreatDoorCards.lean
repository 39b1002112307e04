/-
  DERIVED. GIVEN WITH THE SEED: THE CARDS: each row of YtojdmcennpgndaaGreatDoorRows.lean that lists a variable, with what it lists TIED to the program's text (the seventh form; the later family's looks); each row that meets fmt, with fmt's text TOLD by the authors' own Lean function (tested against real Go, not proved from fmt's source: count such statements apart). THE CARD IS WHAT COUNTS. Prove the row's statement (the work); the ties are given (YtojdmcennpgndaaGreatDoorTie.lean); close each card by the builder's one call (the guide's Derived/Test/ToyasCard.lean, 'card_holds'). Laid BY PROGRAM, IN A SANDBOX (cutbox-door.mjs). By AI agents, Wed Nov 11 2026. No macro, syntax, notation, axiom, sorry.
-/
import Derived.Test.YtojdmcennpgndaaGreatDoorRows
import GoSem.ClaimSeven
namespace Go.Proofs.YtojdmcennpgndaaGreatDoor
namespace Rows

/-- THE TIED CARD OF 'laws.FnStyles'. -/
def fnStylesCard : Claim7 := { stood := { row := fnStylesRow, standIns := [], harness := (true, "1e5f86c37de2b79e7599a3246a74d81b3a6e457f4ed6f5213df592da2f868a3a"), looks := true }, kinds := [], alts := [], laidByText := true, laidKinds := [.data, .data, .data, .handle, .data, .sentinel, .sentinel, .sentinel, .sentinel], laidTests := true, laidLooks := .later }
def FnStylesCardSaid : Prop := Claim7.holds Tryz.pinned (.plain (OpenSpec.ofChange fnStylesSpec)) fnStylesCard

/-- THE SECOND FORM's CARD OF 'laws.FnStyles'. -/
def fnStylesUptoCard : Claim7 := { stood := { row := fnStylesUptoRow, standIns := [], harness := (true, "1e5f86c37de2b79e7599a3246a74d81b3a6e457f4ed6f5213df592da2f868a3a"), looks := true }, kinds := [], alts := [], laidByText := true, laidKinds := [.data, .data, .data, .handle, .data, .sentinel, .sentinel, .sentinel, .sentinel], laidTests := true, laidLooks := .later }
def FnStylesUptoCardSaid : Prop := Claim7.holds Tryz.pinned (.plain (OpenSpec.upto fnStylesSpec)) fnStylesUptoCard
end Rows
end Go.Proofs.YtojdmcennpgndaaGreatDoor
