/-
  DERIVED. GIVEN WITH THE SEED: THE CARDS: each row of YtjknloimdbcogaaDoorRows.lean that lists a variable, with what it lists TIED to the program's text (the seventh form; the later family's looks); each row that meets fmt, with fmt's text TOLD by the authors' own Lean function (tested against real Go, not proved from fmt's source: count such statements apart). THE CARD IS WHAT COUNTS. Prove the row's statement (the work); the ties are given (YtjknloimdbcogaaDoorTie.lean); close each card by the builder's one call (the guide's Derived/Test/ToyasCard.lean, 'card_holds'). Laid BY PROGRAM, IN A SANDBOX (cutbox-door.mjs). By AI agents, Wed Nov 11 2026. No macro, syntax, notation, axiom, sorry.
-/
import Derived.Test.YtjknloimdbcogaaDoorRows
import GoSem.ClaimSeven
namespace Go.Proofs.YtjknloimdbcogaaDoor
namespace Rows

/-- THE TIED CARD OF 'laws.FnExactFixStyle'. -/
def fnExactFixStyleCard : Claim7 := { stood := { row := fnExactFixStyleRow, standIns := [], harness := (true, "6cff567970020e0d9d0c1d972a7a295b273f252d904a7caff862c99873c27c1f"), looks := false }, kinds := [], alts := [], laidByText := true, laidKinds := [.sentinel], laidTests := true, laidLooks := .later }
def FnExactFixStyleCardSaid : Prop := Claim7.holds Tryd.pinned (.plain (OpenSpec.ofChange fnExactFixStyleSpec)) fnExactFixStyleCard

/-- THE TIED CARD OF 'laws.FnExactBoxesOf'. -/
def fnExactBoxesOfCard : Claim7 := { stood := { row := fnExactBoxesOfRow, standIns := [], harness := (true, "6cff567970020e0d9d0c1d972a7a295b273f252d904a7caff862c99873c27c1f"), looks := false }, kinds := [], alts := [], laidByText := true, laidKinds := [.sentinel], laidTests := true, laidLooks := .later }
def FnExactBoxesOfCardSaid : Prop := Claim7.holds Tryd.pinned (.plain (OpenSpec.ofChange fnExactBoxesOfSpec)) fnExactBoxesOfCard

/-- THE TIED CARD OF 'laws.FnExactGoodBoxes'. -/
def fnExactGoodBoxesCard : Claim7 := { stood := { row := fnExactGoodBoxesRow, standIns := [], harness := (true, "6cff567970020e0d9d0c1d972a7a295b273f252d904a7caff862c99873c27c1f"), looks := false }, kinds := [], alts := [], laidByText := true, laidKinds := [.sentinel], laidTests := true, laidLooks := .later }
def FnExactGoodBoxesCardSaid : Prop := Claim7.holds Tryd.pinned (.plain (OpenSpec.ofChange fnExactGoodBoxesSpec)) fnExactGoodBoxesCard

/-- THE SECOND FORM's CARD OF 'laws.FnExactFixStyle'. -/
def fnExactFixStyleUptoCard : Claim7 := { stood := { row := fnExactFixStyleUptoRow, standIns := [], harness := (true, "6cff567970020e0d9d0c1d972a7a295b273f252d904a7caff862c99873c27c1f"), looks := false }, kinds := [], alts := [], laidByText := true, laidKinds := [.sentinel], laidTests := true, laidLooks := .later }
def FnExactFixStyleUptoCardSaid : Prop := Claim7.holds Tryd.pinned (.plain (OpenSpec.upto fnExactFixStyleSpec)) fnExactFixStyleUptoCard

/-- THE SECOND FORM's CARD OF 'laws.FnExactBoxesOf'. -/
def fnExactBoxesOfUptoCard : Claim7 := { stood := { row := fnExactBoxesOfUptoRow, standIns := [], harness := (true, "6cff567970020e0d9d0c1d972a7a295b273f252d904a7caff862c99873c27c1f"), looks := false }, kinds := [], alts := [], laidByText := true, laidKinds := [.sentinel], laidTests := true, laidLooks := .later }
def FnExactBoxesOfUptoCardSaid : Prop := Claim7.holds Tryd.pinned (.plain (OpenSpec.upto fnExactBoxesOfSpec)) fnExactBoxesOfUptoCard

/-- THE SECOND FORM's CARD OF 'laws.FnExactGoodBoxes'. -/
def fnExactGoodBoxesUptoCard : Claim7 := { stood := { row := fnExactGoodBoxesUptoRow, standIns := [], harness := (true, "6cff567970020e0d9d0c1d972a7a295b273f252d904a7caff862c99873c27c1f"), looks := false }, kinds := [], alts := [], laidByText := true, laidKinds := [.sentinel], laidTests := true, laidLooks := .later }
def FnExactGoodBoxesUptoCardSaid : Prop := Claim7.holds Tryd.pinned (.plain (OpenSpec.upto fnExactGoodBoxesSpec)) fnExactGoodBoxesUptoCard
end Rows
end Go.Proofs.YtjknloimdbcogaaDoor
