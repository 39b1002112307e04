/-
  DERIVED. GIVEN WITH THE SEED: THE CARDS: each row of YtllkbokkhdomoaaRDoorRows.lean that lists a variable, with what it lists TIED to the program's text (the seventh form; the later family's looks); each row that meets fmt, with fmt's text TOLD by the authors' own Lean function (tested against real Go, not proved from fmt's source: count such statements apart). THE CARD IS WHAT COUNTS. Prove the row's statement (the work); the ties are given (YtllkbokkhdomoaaRDoorTie.lean); close each card by the builder's one call (the guide's Derived/Test/ToyasCard.lean, 'card_holds'). Laid BY PROGRAM, IN A SANDBOX (cutbox-door.mjs). By AI agents, Wed Nov 11 2026. No macro, syntax, notation, axiom, sorry.
-/
import Derived.Test.YtllkbokkhdomoaaRDoorRows
import GoSem.ClaimSeven
namespace Go.Proofs.YtllkbokkhdomoaaRDoor
namespace Rows

/-- THE TIED CARD OF 'laws.FnFits'. -/
def fnFitsCard : Claim7 := { stood := { row := fnFitsRow, standIns := [], harness := (true, "059fa0eb524f69ecd40328933aa90f9178a8ec26f82a5a3f58427d65f8fa6bc2"), looks := false }, kinds := [], alts := [], laidByText := true, laidKinds := [.data], laidTests := true, laidLooks := .later }
def FnFitsCardSaid : Prop := Claim7.holds Tryd.pinned (.plain (OpenSpec.ofChange fnFitsSpec)) fnFitsCard

/-- THE TIED CARD OF 'laws.FnExactAdvanceOf'. -/
def fnExactAdvanceOfCard : Claim7 := { stood := { row := fnExactAdvanceOfRow, standIns := [], harness := (true, "059fa0eb524f69ecd40328933aa90f9178a8ec26f82a5a3f58427d65f8fa6bc2"), looks := false }, kinds := [], alts := [], laidByText := true, laidKinds := [.data], laidTests := true, laidLooks := .later }
def FnExactAdvanceOfCardSaid : Prop := Claim7.holds Tryd.pinned (.plain (OpenSpec.ofChange fnExactAdvanceOfSpec)) fnExactAdvanceOfCard

/-- THE TIED CARD OF 'laws.FnExactFitsIn'. -/
def fnExactFitsInCard : Claim7 := { stood := { row := fnExactFitsInRow, standIns := [], harness := (true, "059fa0eb524f69ecd40328933aa90f9178a8ec26f82a5a3f58427d65f8fa6bc2"), looks := false }, kinds := [], alts := [], laidByText := true, laidKinds := [.data], laidTests := true, laidLooks := .later }
def FnExactFitsInCardSaid : Prop := Claim7.holds Tryd.pinned (.plain (OpenSpec.ofChange fnExactFitsInSpec)) fnExactFitsInCard

/-- THE SECOND FORM's CARD OF 'laws.FnFits'. -/
def fnFitsUptoCard : Claim7 := { stood := { row := fnFitsUptoRow, standIns := [], harness := (true, "059fa0eb524f69ecd40328933aa90f9178a8ec26f82a5a3f58427d65f8fa6bc2"), looks := false }, kinds := [], alts := [], laidByText := true, laidKinds := [.data], laidTests := true, laidLooks := .later }
def FnFitsUptoCardSaid : Prop := Claim7.holds Tryd.pinned (.plain (OpenSpec.upto fnFitsSpec)) fnFitsUptoCard

/-- THE SECOND FORM's CARD OF 'laws.FnExactAdvanceOf'. -/
def fnExactAdvanceOfUptoCard : Claim7 := { stood := { row := fnExactAdvanceOfUptoRow, standIns := [], harness := (true, "059fa0eb524f69ecd40328933aa90f9178a8ec26f82a5a3f58427d65f8fa6bc2"), looks := false }, kinds := [], alts := [], laidByText := true, laidKinds := [.data], laidTests := true, laidLooks := .later }
def FnExactAdvanceOfUptoCardSaid : Prop := Claim7.holds Tryd.pinned (.plain (OpenSpec.upto fnExactAdvanceOfSpec)) fnExactAdvanceOfUptoCard

/-- THE SECOND FORM's CARD OF 'laws.FnExactFitsIn'. -/
def fnExactFitsInUptoCard : Claim7 := { stood := { row := fnExactFitsInUptoRow, standIns := [], harness := (true, "059fa0eb524f69ecd40328933aa90f9178a8ec26f82a5a3f58427d65f8fa6bc2"), looks := false }, kinds := [], alts := [], laidByText := true, laidKinds := [.data], laidTests := true, laidLooks := .later }
def FnExactFitsInUptoCardSaid : Prop := Claim7.holds Tryd.pinned (.plain (OpenSpec.upto fnExactFitsInSpec)) fnExactFitsInUptoCard
end Rows
end Go.Proofs.YtllkbokkhdomoaaRDoor
