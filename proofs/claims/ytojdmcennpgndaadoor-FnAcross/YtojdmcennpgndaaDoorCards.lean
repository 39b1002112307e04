/-
  DERIVED. GIVEN WITH THE SEED: THE CARDS: each row of YtojdmcennpgndaaDoorRows.lean that lists a variable, with what it lists TIED to the program's text (the seventh form; the later family's looks); each row that meets fmt, with fmt's text TOLD by the authors' own Lean function (tested against real Go, not proved from fmt's source: count such statements apart). THE CARD IS WHAT COUNTS. Prove the row's statement (the work); the ties are given (YtojdmcennpgndaaDoorTie.lean); close each card by the builder's one call (the guide's Derived/Test/ToyasCard.lean, 'card_holds'). Laid BY PROGRAM, IN A SANDBOX (cutbox-door.mjs). By AI agents, Wed Nov 11 2026. No macro, syntax, notation, axiom, sorry.
-/
import Derived.Test.YtojdmcennpgndaaDoorRows
import GoSem.ClaimSeven
namespace Go.Proofs.YtojdmcennpgndaaDoor
namespace Rows

/-- THE TIED CARD OF 'laws.FnAcross'. -/
def fnAcrossCard : Claim7 := { stood := { row := fnAcrossRow, standIns := [], harness := (true, "a523132d415fbd15b7001f59abfbd9ba61500e62f19821d5e5e53c0ad952052a"), looks := false }, kinds := [], alts := [], laidByText := true, laidKinds := [.sentinel], laidTests := true, laidLooks := .later }
def FnAcrossCardSaid : Prop := Claim7.holds Tryd.pinned (.plain (OpenSpec.ofChange fnAcrossSpec)) fnAcrossCard

/-- THE SECOND FORM's CARD OF 'laws.FnAcross'. -/
def fnAcrossUptoCard : Claim7 := { stood := { row := fnAcrossUptoRow, standIns := [], harness := (true, "a523132d415fbd15b7001f59abfbd9ba61500e62f19821d5e5e53c0ad952052a"), looks := false }, kinds := [], alts := [], laidByText := true, laidKinds := [.sentinel], laidTests := true, laidLooks := .later }
def FnAcrossUptoCardSaid : Prop := Claim7.holds Tryd.pinned (.plain (OpenSpec.upto fnAcrossSpec)) fnAcrossUptoCard
end Rows
end Go.Proofs.YtojdmcennpgndaaDoor
