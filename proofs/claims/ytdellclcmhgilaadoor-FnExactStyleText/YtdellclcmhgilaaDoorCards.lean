/-
  DERIVED. GIVEN WITH THE SEED: THE CARDS: each row of YtdellclcmhgilaaDoorRows.lean that lists a variable, with what it lists TIED to the program's text (the seventh form; the later family's looks); each row that meets fmt, with fmt's text TOLD by the authors' own Lean function (tested against real Go, not proved from fmt's source: count such statements apart). THE CARD IS WHAT COUNTS. Prove the row's statement (the work); the ties are given (YtdellclcmhgilaaDoorTie.lean); close each card by the builder's one call (the guide's Derived/Test/ToyasCard.lean, 'card_holds'). Laid BY PROGRAM, IN A SANDBOX (cutbox-door.mjs). By AI agents, Wed Nov 11 2026. No macro, syntax, notation, axiom, sorry.
-/
import Derived.Test.YtdellclcmhgilaaDoorRows
import GoSem.ClaimSeven
namespace Go.Proofs.YtdellclcmhgilaaDoor
namespace Rows

/-- THE TIED CARD OF 'laws.FnExactGoodStyle'. -/
def fnExactGoodStyleCard : Claim7 := { stood := { row := fnExactGoodStyleRow, standIns := [], harness := (true, "cbf90aeffbd6fe46eea2c4787f820e4df216e22f6b75866f61ece9b32561880d"), looks := false }, kinds := [], alts := [], laidByText := true, laidKinds := [.sentinel], laidTests := true, laidLooks := .later }
def FnExactGoodStyleCardSaid : Prop := Claim7.holds Tryd.pinned (.plain (OpenSpec.ofChange fnExactGoodStyleSpec)) fnExactGoodStyleCard

/-- THE TIED CARD OF 'laws.FnExactFixStyle'. -/
def fnExactFixStyleCard : Claim7 := { stood := { row := fnExactFixStyleRow, standIns := [], harness := (true, "cbf90aeffbd6fe46eea2c4787f820e4df216e22f6b75866f61ece9b32561880d"), looks := false }, kinds := [], alts := [], laidByText := true, laidKinds := [.sentinel], laidTests := true, laidLooks := .later }
def FnExactFixStyleCardSaid : Prop := Claim7.holds Tryd.pinned (.plain (OpenSpec.ofChange fnExactFixStyleSpec)) fnExactFixStyleCard

/-- THE TIED CARD OF 'laws.FnExactStyleText'. -/
def fnExactStyleTextCard : Claim7 := { stood := { row := fnExactStyleTextRow, standIns := [], harness := (true, "cbf90aeffbd6fe46eea2c4787f820e4df216e22f6b75866f61ece9b32561880d"), looks := false }, kinds := [], alts := [], laidByText := true, laidKinds := [.data, .data, .data, .data, .sentinel, .sentinel], laidTests := true, laidLooks := .later }
def FnExactStyleTextCardSaid : Prop := Claim7.holds Tryd.pinned (.plain (OpenSpec.ofChange fnExactStyleTextSpec)) fnExactStyleTextCard

/-- THE TIED CARD OF 'laws.FnExactGoodTree'. -/
def fnExactGoodTreeCard : Claim7 := { stood := { row := fnExactGoodTreeRow, standIns := [], harness := (true, "cbf90aeffbd6fe46eea2c4787f820e4df216e22f6b75866f61ece9b32561880d"), looks := false }, kinds := [], alts := [], laidByText := true, laidKinds := [.sentinel], laidTests := true, laidLooks := .later }
def FnExactGoodTreeCardSaid : Prop := Claim7.holds Tryd.pinned (.plain (OpenSpec.ofChange fnExactGoodTreeSpec)) fnExactGoodTreeCard

/-- THE SECOND FORM's CARD OF 'laws.FnExactGoodStyle'. -/
def fnExactGoodStyleUptoCard : Claim7 := { stood := { row := fnExactGoodStyleUptoRow, standIns := [], harness := (true, "cbf90aeffbd6fe46eea2c4787f820e4df216e22f6b75866f61ece9b32561880d"), looks := false }, kinds := [], alts := [], laidByText := true, laidKinds := [.sentinel], laidTests := true, laidLooks := .later }
def FnExactGoodStyleUptoCardSaid : Prop := Claim7.holds Tryd.pinned (.plain (OpenSpec.upto fnExactGoodStyleSpec)) fnExactGoodStyleUptoCard

/-- THE SECOND FORM's CARD OF 'laws.FnExactFixStyle'. -/
def fnExactFixStyleUptoCard : Claim7 := { stood := { row := fnExactFixStyleUptoRow, standIns := [], harness := (true, "cbf90aeffbd6fe46eea2c4787f820e4df216e22f6b75866f61ece9b32561880d"), looks := false }, kinds := [], alts := [], laidByText := true, laidKinds := [.sentinel], laidTests := true, laidLooks := .later }
def FnExactFixStyleUptoCardSaid : Prop := Claim7.holds Tryd.pinned (.plain (OpenSpec.upto fnExactFixStyleSpec)) fnExactFixStyleUptoCard

/-- THE SECOND FORM's CARD OF 'laws.FnExactStyleText'. -/
def fnExactStyleTextUptoCard : Claim7 := { stood := { row := fnExactStyleTextUptoRow, standIns := [], harness := (true, "cbf90aeffbd6fe46eea2c4787f820e4df216e22f6b75866f61ece9b32561880d"), looks := false }, kinds := [], alts := [], laidByText := true, laidKinds := [.data, .data, .data, .data, .sentinel, .sentinel], laidTests := true, laidLooks := .later }
def FnExactStyleTextUptoCardSaid : Prop := Claim7.holds Tryd.pinned (.plain (OpenSpec.upto fnExactStyleTextSpec)) fnExactStyleTextUptoCard

/-- THE SECOND FORM's CARD OF 'laws.FnExactGoodTree'. -/
def fnExactGoodTreeUptoCard : Claim7 := { stood := { row := fnExactGoodTreeUptoRow, standIns := [], harness := (true, "cbf90aeffbd6fe46eea2c4787f820e4df216e22f6b75866f61ece9b32561880d"), looks := false }, kinds := [], alts := [], laidByText := true, laidKinds := [.sentinel], laidTests := true, laidLooks := .later }
def FnExactGoodTreeUptoCardSaid : Prop := Claim7.holds Tryd.pinned (.plain (OpenSpec.upto fnExactGoodTreeSpec)) fnExactGoodTreeUptoCard
end Rows
end Go.Proofs.YtdellclcmhgilaaDoor
