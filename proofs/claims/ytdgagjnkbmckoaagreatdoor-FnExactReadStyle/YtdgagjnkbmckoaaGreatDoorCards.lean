/-
  DERIVED. GIVEN WITH THE SEED: THE CARDS: each row of YtdgagjnkbmckoaaGreatDoorRows.lean that lists a variable, with what it lists TIED to the program's text (the seventh form; the later family's looks); each row that meets fmt, with fmt's text TOLD by the authors' own Lean function (tested against real Go, not proved from fmt's source: count such statements apart). THE CARD IS WHAT COUNTS. Prove the row's statement (the work); the ties are given (YtdgagjnkbmckoaaGreatDoorTie.lean); close each card by the builder's one call (the guide's Derived/Test/ToyasCard.lean, 'card_holds'). Laid BY PROGRAM, IN A SANDBOX (cutbox-door.mjs). By AI agents, Wed Nov 11 2026. No macro, syntax, notation, axiom, sorry.
-/
import Derived.Test.YtdgagjnkbmckoaaGreatDoorRows
import GoSem.ClaimSeven
namespace Go.Proofs.YtdgagjnkbmckoaaGreatDoor
namespace Rows

/-- THE TIED CARD OF 'laws.FnExactReadStyle'. -/
def fnExactReadStyleCard : Claim7 := { stood := { row := fnExactReadStyleRow, standIns := [], harness := (true, "b133b8c969c3c7e29ce791ade6091c33a26b11d9d32ecb84b4bb595f5606fab2"), looks := true }, kinds := [], alts := [], laidByText := true, laidKinds := [.data, .data, .data, .handle, .data, .sentinel, .sentinel, .sentinel, .sentinel], laidTests := true, laidLooks := .later }
def FnExactReadStyleCardSaid : Prop := Claim7.holds Tryz.pinned (.plain (OpenSpec.ofChange fnExactReadStyleSpec)) fnExactReadStyleCard

/-- THE SECOND FORM's CARD OF 'laws.FnExactReadStyle'. -/
def fnExactReadStyleUptoCard : Claim7 := { stood := { row := fnExactReadStyleUptoRow, standIns := [], harness := (true, "b133b8c969c3c7e29ce791ade6091c33a26b11d9d32ecb84b4bb595f5606fab2"), looks := true }, kinds := [], alts := [], laidByText := true, laidKinds := [.data, .data, .data, .handle, .data, .sentinel, .sentinel, .sentinel, .sentinel], laidTests := true, laidLooks := .later }
def FnExactReadStyleUptoCardSaid : Prop := Claim7.holds Tryz.pinned (.plain (OpenSpec.upto fnExactReadStyleSpec)) fnExactReadStyleUptoCard
end Rows
end Go.Proofs.YtdgagjnkbmckoaaGreatDoor
