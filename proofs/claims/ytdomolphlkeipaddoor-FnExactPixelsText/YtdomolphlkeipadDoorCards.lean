/-
  DERIVED. GIVEN WITH THE SEED: THE CARDS: each row of YtdomolphlkeipadDoorRows.lean that lists a variable, with what it lists TIED to the program's text (the seventh form; the later family's looks); each row that meets fmt, with fmt's text TOLD by the authors' own Lean function (tested against real Go, not proved from fmt's source: count such statements apart). THE CARD IS WHAT COUNTS. Prove the row's statement (the work); the ties are given (YtdomolphlkeipadDoorTie.lean); close each card by the builder's one call (the guide's Derived/Test/ToyasCard.lean, 'card_holds'). Laid BY PROGRAM, IN A SANDBOX (cutbox-door.mjs). By AI agents, Wed Nov 11 2026. No macro, syntax, notation, axiom, sorry.
-/
import Derived.Test.YtdomolphlkeipadDoorRows
import GoSem.ClaimSeven
namespace Go.Proofs.YtdomolphlkeipadDoor
namespace Rows

/-- THE TIED CARD OF 'laws.FnExactPixelsText'. -/
def fnExactPixelsTextCard : Claim7 := { stood := { row := fnExactPixelsTextRow, standIns := [], harness := (true, "1351211b899863866a13924ad51cecbe3963c174181ac410e8e899e40cfc5d7b"), looks := false }, kinds := [], alts := [], laidByText := true, laidKinds := [.data, .data, .data, .data], laidTests := true, laidLooks := .later }
def FnExactPixelsTextCardSaid : Prop := Claim7.holds Tryd.pinned (.plain (OpenSpec.ofChange fnExactPixelsTextSpec)) fnExactPixelsTextCard

/-- THE SECOND FORM's CARD OF 'laws.FnExactPixelsText'. -/
def fnExactPixelsTextUptoCard : Claim7 := { stood := { row := fnExactPixelsTextUptoRow, standIns := [], harness := (true, "1351211b899863866a13924ad51cecbe3963c174181ac410e8e899e40cfc5d7b"), looks := false }, kinds := [], alts := [], laidByText := true, laidKinds := [.data, .data, .data, .data], laidTests := true, laidLooks := .later }
def FnExactPixelsTextUptoCardSaid : Prop := Claim7.holds Tryd.pinned (.plain (OpenSpec.upto fnExactPixelsTextSpec)) fnExactPixelsTextUptoCard
end Rows
end Go.Proofs.YtdomolphlkeipadDoor
