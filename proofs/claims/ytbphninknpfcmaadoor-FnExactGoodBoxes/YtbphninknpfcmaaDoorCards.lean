/-
  DERIVED. GIVEN WITH THE SEED: THE CARDS: each row of YtbphninknpfcmaaDoorRows.lean that lists a variable, with what it lists TIED to the program's text (the seventh form; the later family's looks); each row that meets fmt, with fmt's text TOLD by the authors' own Lean function (tested against real Go, not proved from fmt's source: count such statements apart). THE CARD IS WHAT COUNTS. Prove the row's statement (the work); the ties are given (YtbphninknpfcmaaDoorTie.lean); close each card by the builder's one call (the guide's Derived/Test/ToyasCard.lean, 'card_holds'). Laid BY PROGRAM, IN A SANDBOX (cutbox-door.mjs). By AI agents, Wed Nov 11 2026. No macro, syntax, notation, axiom, sorry.
-/
import Derived.Test.YtbphninknpfcmaaDoorRows
import GoSem.ClaimSeven
namespace Go.Proofs.YtbphninknpfcmaaDoor
namespace Rows

/-- THE TIED CARD OF 'laws.FnExactBoxesOf'. -/
def fnExactBoxesOfCard : Claim7 := { stood := { row := fnExactBoxesOfRow, standIns := [], harness := (true, "63a5f5fba12170dd48df1db2e813847d4b38426788df76280efbae803293a85e"), looks := false }, kinds := [], alts := [], laidByText := true, laidKinds := [.sentinel], laidTests := true, laidLooks := .later }
def FnExactBoxesOfCardSaid : Prop := Claim7.holds Tryd.pinned (.plain (OpenSpec.ofChange fnExactBoxesOfSpec)) fnExactBoxesOfCard

/-- THE TIED CARD OF 'laws.FnExactGoodBoxes'. -/
def fnExactGoodBoxesCard : Claim7 := { stood := { row := fnExactGoodBoxesRow, standIns := [], harness := (true, "63a5f5fba12170dd48df1db2e813847d4b38426788df76280efbae803293a85e"), looks := false }, kinds := [], alts := [], laidByText := true, laidKinds := [.sentinel], laidTests := true, laidLooks := .later }
def FnExactGoodBoxesCardSaid : Prop := Claim7.holds Tryd.pinned (.plain (OpenSpec.ofChange fnExactGoodBoxesSpec)) fnExactGoodBoxesCard

/-- THE TIED CARD OF 'laws.FnExactBlockAcross'. -/
def fnExactBlockAcrossCard : Claim7 := { stood := { row := fnExactBlockAcrossRow, standIns := [], harness := (true, "63a5f5fba12170dd48df1db2e813847d4b38426788df76280efbae803293a85e"), looks := false }, kinds := [], alts := [], laidByText := true, laidKinds := [.sentinel], laidTests := true, laidLooks := .later }
def FnExactBlockAcrossCardSaid : Prop := Claim7.holds Tryd.pinned (.plain (OpenSpec.ofChange fnExactBlockAcrossSpec)) fnExactBlockAcrossCard

/-- THE TIED CARD OF 'laws.FnExactFloatAcross'. -/
def fnExactFloatAcrossCard : Claim7 := { stood := { row := fnExactFloatAcrossRow, standIns := [], harness := (true, "63a5f5fba12170dd48df1db2e813847d4b38426788df76280efbae803293a85e"), looks := false }, kinds := [], alts := [], laidByText := true, laidKinds := [.sentinel], laidTests := true, laidLooks := .later }
def FnExactFloatAcrossCardSaid : Prop := Claim7.holds Tryd.pinned (.plain (OpenSpec.ofChange fnExactFloatAcrossSpec)) fnExactFloatAcrossCard

/-- THE TIED CARD OF 'laws.FnExactRestOf'. -/
def fnExactRestOfCard : Claim7 := { stood := { row := fnExactRestOfRow, standIns := [], harness := (true, "63a5f5fba12170dd48df1db2e813847d4b38426788df76280efbae803293a85e"), looks := false }, kinds := [], alts := [], laidByText := true, laidKinds := [.sentinel], laidTests := true, laidLooks := .later }
def FnExactRestOfCardSaid : Prop := Claim7.holds Tryd.pinned (.plain (OpenSpec.ofChange fnExactRestOfSpec)) fnExactRestOfCard

/-- THE SECOND FORM's CARD OF 'laws.FnExactBoxesOf'. -/
def fnExactBoxesOfUptoCard : Claim7 := { stood := { row := fnExactBoxesOfUptoRow, standIns := [], harness := (true, "63a5f5fba12170dd48df1db2e813847d4b38426788df76280efbae803293a85e"), looks := false }, kinds := [], alts := [], laidByText := true, laidKinds := [.sentinel], laidTests := true, laidLooks := .later }
def FnExactBoxesOfUptoCardSaid : Prop := Claim7.holds Tryd.pinned (.plain (OpenSpec.upto fnExactBoxesOfSpec)) fnExactBoxesOfUptoCard

/-- THE SECOND FORM's CARD OF 'laws.FnExactGoodBoxes'. -/
def fnExactGoodBoxesUptoCard : Claim7 := { stood := { row := fnExactGoodBoxesUptoRow, standIns := [], harness := (true, "63a5f5fba12170dd48df1db2e813847d4b38426788df76280efbae803293a85e"), looks := false }, kinds := [], alts := [], laidByText := true, laidKinds := [.sentinel], laidTests := true, laidLooks := .later }
def FnExactGoodBoxesUptoCardSaid : Prop := Claim7.holds Tryd.pinned (.plain (OpenSpec.upto fnExactGoodBoxesSpec)) fnExactGoodBoxesUptoCard

/-- THE SECOND FORM's CARD OF 'laws.FnExactBlockAcross'. -/
def fnExactBlockAcrossUptoCard : Claim7 := { stood := { row := fnExactBlockAcrossUptoRow, standIns := [], harness := (true, "63a5f5fba12170dd48df1db2e813847d4b38426788df76280efbae803293a85e"), looks := false }, kinds := [], alts := [], laidByText := true, laidKinds := [.sentinel], laidTests := true, laidLooks := .later }
def FnExactBlockAcrossUptoCardSaid : Prop := Claim7.holds Tryd.pinned (.plain (OpenSpec.upto fnExactBlockAcrossSpec)) fnExactBlockAcrossUptoCard

/-- THE SECOND FORM's CARD OF 'laws.FnExactFloatAcross'. -/
def fnExactFloatAcrossUptoCard : Claim7 := { stood := { row := fnExactFloatAcrossUptoRow, standIns := [], harness := (true, "63a5f5fba12170dd48df1db2e813847d4b38426788df76280efbae803293a85e"), looks := false }, kinds := [], alts := [], laidByText := true, laidKinds := [.sentinel], laidTests := true, laidLooks := .later }
def FnExactFloatAcrossUptoCardSaid : Prop := Claim7.holds Tryd.pinned (.plain (OpenSpec.upto fnExactFloatAcrossSpec)) fnExactFloatAcrossUptoCard

/-- THE SECOND FORM's CARD OF 'laws.FnExactRestOf'. -/
def fnExactRestOfUptoCard : Claim7 := { stood := { row := fnExactRestOfUptoRow, standIns := [], harness := (true, "63a5f5fba12170dd48df1db2e813847d4b38426788df76280efbae803293a85e"), looks := false }, kinds := [], alts := [], laidByText := true, laidKinds := [.sentinel], laidTests := true, laidLooks := .later }
def FnExactRestOfUptoCardSaid : Prop := Claim7.holds Tryd.pinned (.plain (OpenSpec.upto fnExactRestOfSpec)) fnExactRestOfUptoCard
end Rows
end Go.Proofs.YtbphninknpfcmaaDoor
