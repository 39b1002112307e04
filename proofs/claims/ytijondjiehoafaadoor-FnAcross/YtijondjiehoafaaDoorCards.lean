/-
  DERIVED. GIVEN WITH THE SEED: THE CARDS: each row of YtijondjiehoafaaDoorRows.lean that lists a variable, with what it lists TIED to the program's text (the seventh form; the later family's looks); each row that meets fmt, with fmt's text TOLD by the authors' own Lean function (tested against real Go, not proved from fmt's source: count such statements apart). THE CARD IS WHAT COUNTS. Prove the row's statement (the work); the ties are given (YtijondjiehoafaaDoorTie.lean); close each card by the builder's one call (the guide's Derived/Test/ToyasCard.lean, 'card_holds'). Laid BY PROGRAM, IN A SANDBOX (cutbox-door.mjs). By AI agents, Wed Nov 11 2026. No macro, syntax, notation, axiom, sorry.
-/
import Derived.Test.YtijondjiehoafaaDoorRows
import GoSem.ClaimSeven
namespace Go.Proofs.YtijondjiehoafaaDoor
namespace Rows

/-- THE TIED CARD OF 'laws.FnExactBlockAcross'. -/
def fnExactBlockAcrossCard : Claim7 := { stood := { row := fnExactBlockAcrossRow, standIns := [], harness := (true, "2d3afee0a563086c488413eb536795e60825797b9751356358fe32dba57dea96"), looks := false }, kinds := [], alts := [], laidByText := true, laidKinds := [.sentinel], laidTests := true, laidLooks := .later }
def FnExactBlockAcrossCardSaid : Prop := Claim7.holds Tryd.pinned (.plain (OpenSpec.ofChange fnExactBlockAcrossSpec)) fnExactBlockAcrossCard

/-- THE TIED CARD OF 'laws.FnExactFloatAcross'. -/
def fnExactFloatAcrossCard : Claim7 := { stood := { row := fnExactFloatAcrossRow, standIns := [], harness := (true, "2d3afee0a563086c488413eb536795e60825797b9751356358fe32dba57dea96"), looks := false }, kinds := [], alts := [], laidByText := true, laidKinds := [.sentinel], laidTests := true, laidLooks := .later }
def FnExactFloatAcrossCardSaid : Prop := Claim7.holds Tryd.pinned (.plain (OpenSpec.ofChange fnExactFloatAcrossSpec)) fnExactFloatAcrossCard

/-- THE TIED CARD OF 'laws.FnExactRestOf'. -/
def fnExactRestOfCard : Claim7 := { stood := { row := fnExactRestOfRow, standIns := [], harness := (true, "2d3afee0a563086c488413eb536795e60825797b9751356358fe32dba57dea96"), looks := false }, kinds := [], alts := [], laidByText := true, laidKinds := [.sentinel], laidTests := true, laidLooks := .later }
def FnExactRestOfCardSaid : Prop := Claim7.holds Tryd.pinned (.plain (OpenSpec.ofChange fnExactRestOfSpec)) fnExactRestOfCard

/-- THE TIED CARD OF 'laws.FnAcross'. -/
def fnAcrossCard : Claim7 := { stood := { row := fnAcrossRow, standIns := [], harness := (true, "2d3afee0a563086c488413eb536795e60825797b9751356358fe32dba57dea96"), looks := false }, kinds := [], alts := [], laidByText := true, laidKinds := [.sentinel], laidTests := true, laidLooks := .later }
def FnAcrossCardSaid : Prop := Claim7.holds Tryd.pinned (.plain (OpenSpec.ofChange fnAcrossSpec)) fnAcrossCard

/-- THE TIED CARD OF 'laws.FnLengths'. -/
def fnLengthsCard : Claim7 := { stood := { row := fnLengthsRow, standIns := [], harness := (true, "2d3afee0a563086c488413eb536795e60825797b9751356358fe32dba57dea96"), looks := false }, kinds := [], alts := [], laidByText := true, laidKinds := [.data, .data, .data, .data], laidTests := true, laidLooks := .later }
def FnLengthsCardSaid : Prop := Claim7.holds Tryd.pinned (.plain (OpenSpec.ofChange fnLengthsSpec)) fnLengthsCard

/-- THE SECOND FORM's CARD OF 'laws.FnExactBlockAcross'. -/
def fnExactBlockAcrossUptoCard : Claim7 := { stood := { row := fnExactBlockAcrossUptoRow, standIns := [], harness := (true, "2d3afee0a563086c488413eb536795e60825797b9751356358fe32dba57dea96"), looks := false }, kinds := [], alts := [], laidByText := true, laidKinds := [.sentinel], laidTests := true, laidLooks := .later }
def FnExactBlockAcrossUptoCardSaid : Prop := Claim7.holds Tryd.pinned (.plain (OpenSpec.upto fnExactBlockAcrossSpec)) fnExactBlockAcrossUptoCard

/-- THE SECOND FORM's CARD OF 'laws.FnExactFloatAcross'. -/
def fnExactFloatAcrossUptoCard : Claim7 := { stood := { row := fnExactFloatAcrossUptoRow, standIns := [], harness := (true, "2d3afee0a563086c488413eb536795e60825797b9751356358fe32dba57dea96"), looks := false }, kinds := [], alts := [], laidByText := true, laidKinds := [.sentinel], laidTests := true, laidLooks := .later }
def FnExactFloatAcrossUptoCardSaid : Prop := Claim7.holds Tryd.pinned (.plain (OpenSpec.upto fnExactFloatAcrossSpec)) fnExactFloatAcrossUptoCard

/-- THE SECOND FORM's CARD OF 'laws.FnExactRestOf'. -/
def fnExactRestOfUptoCard : Claim7 := { stood := { row := fnExactRestOfUptoRow, standIns := [], harness := (true, "2d3afee0a563086c488413eb536795e60825797b9751356358fe32dba57dea96"), looks := false }, kinds := [], alts := [], laidByText := true, laidKinds := [.sentinel], laidTests := true, laidLooks := .later }
def FnExactRestOfUptoCardSaid : Prop := Claim7.holds Tryd.pinned (.plain (OpenSpec.upto fnExactRestOfSpec)) fnExactRestOfUptoCard

/-- THE SECOND FORM's CARD OF 'laws.FnAcross'. -/
def fnAcrossUptoCard : Claim7 := { stood := { row := fnAcrossUptoRow, standIns := [], harness := (true, "2d3afee0a563086c488413eb536795e60825797b9751356358fe32dba57dea96"), looks := false }, kinds := [], alts := [], laidByText := true, laidKinds := [.sentinel], laidTests := true, laidLooks := .later }
def FnAcrossUptoCardSaid : Prop := Claim7.holds Tryd.pinned (.plain (OpenSpec.upto fnAcrossSpec)) fnAcrossUptoCard

/-- THE SECOND FORM's CARD OF 'laws.FnLengths'. -/
def fnLengthsUptoCard : Claim7 := { stood := { row := fnLengthsUptoRow, standIns := [], harness := (true, "2d3afee0a563086c488413eb536795e60825797b9751356358fe32dba57dea96"), looks := false }, kinds := [], alts := [], laidByText := true, laidKinds := [.data, .data, .data, .data], laidTests := true, laidLooks := .later }
def FnLengthsUptoCardSaid : Prop := Claim7.holds Tryd.pinned (.plain (OpenSpec.upto fnLengthsSpec)) fnLengthsUptoCard
end Rows
end Go.Proofs.YtijondjiehoafaaDoor
