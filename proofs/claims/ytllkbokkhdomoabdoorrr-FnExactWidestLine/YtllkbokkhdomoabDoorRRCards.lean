/-
  DERIVED. GIVEN WITH THE SEED: THE CARDS: each row of YtllkbokkhdomoabDoorRRRows.lean that lists a variable, with what it lists TIED to the program's text (the seventh form; the later family's looks); each row that meets fmt, with fmt's text TOLD by the authors' own Lean function (tested against real Go, not proved from fmt's source: count such statements apart). THE CARD IS WHAT COUNTS. Prove the row's statement (the work); the ties are given (YtllkbokkhdomoabDoorRRTie.lean); close each card by the builder's one call (the guide's Derived/Test/ToyasCard.lean, 'card_holds'). Laid BY PROGRAM, IN A SANDBOX (cutbox-door.mjs). By AI agents, Wed Nov 11 2026. No macro, syntax, notation, axiom, sorry.
-/
import Derived.Test.YtllkbokkhdomoabDoorRRRows
import GoSem.ClaimSeven
namespace Go.Proofs.YtllkbokkhdomoabDoorRR
namespace Rows

/-- THE TIED CARD OF 'laws.FnExactWidestLine'. -/
def fnExactWidestLineCard : Claim7 := { stood := { row := fnExactWidestLineRow, standIns := [], harness := (true, "ec7fd14bf996665717ba43e61b58e5f8260698893b7786b34ef5422c4497a1ba"), looks := false }, kinds := [], alts := [], laidByText := true, laidKinds := [.data, .data, .pinned], laidTests := true, laidLooks := .later }
def FnExactWidestLineCardSaid : Prop := Claim7.holds Tryd.pinned (.plain (OpenSpec.ofChange fnExactWidestLineSpec)) fnExactWidestLineCard

/-- THE SECOND FORM's CARD OF 'laws.FnExactWidestLine'. -/
def fnExactWidestLineUptoCard : Claim7 := { stood := { row := fnExactWidestLineUptoRow, standIns := [], harness := (true, "ec7fd14bf996665717ba43e61b58e5f8260698893b7786b34ef5422c4497a1ba"), looks := false }, kinds := [], alts := [], laidByText := true, laidKinds := [.data, .data, .pinned], laidTests := true, laidLooks := .later }
def FnExactWidestLineUptoCardSaid : Prop := Claim7.holds Tryd.pinned (.plain (OpenSpec.upto fnExactWidestLineSpec)) fnExactWidestLineUptoCard
end Rows
end Go.Proofs.YtllkbokkhdomoabDoorRR
