/-
  DERIVED. GIVEN WITH THE SEED: THE CARDS: each row of YtdgagjnkbmckoaaDoorRows.lean that lists a variable, with what it lists TIED to the program's text (the seventh form; the later family's looks); each row that meets fmt, with fmt's text TOLD by the authors' own Lean function (tested against real Go, not proved from fmt's source: count such statements apart). THE CARD IS WHAT COUNTS. Prove the row's statement (the work); the ties are given (YtdgagjnkbmckoaaDoorTie.lean); close each card by the builder's one call (the guide's Derived/Test/ToyasCard.lean, 'card_holds'). Laid BY PROGRAM, IN A SANDBOX (cutbox-door.mjs). By AI agents, Wed Nov 11 2026. No macro, syntax, notation, axiom, sorry.
-/
import Derived.Test.YtdgagjnkbmckoaaDoorRows
import GoSem.ClaimSeven
namespace Go.Proofs.YtdgagjnkbmckoaaDoor
namespace Rows

/-- THE TIED CARD OF 'laws.FnExactGoodTree'. -/
def fnExactGoodTreeCard : Claim7 := { stood := { row := fnExactGoodTreeRow, standIns := [], harness := (true, "34dd7794691b4af1920a64e3d7f27bf4658cc102da859fd3529f33e787d61e95"), looks := false }, kinds := [], alts := [], laidByText := true, laidKinds := [.sentinel], laidTests := true, laidLooks := .later }
def FnExactGoodTreeCardSaid : Prop := Claim7.holds Tryd.pinned (.plain (OpenSpec.ofChange fnExactGoodTreeSpec)) fnExactGoodTreeCard

/-- THE TIED CARD OF 'laws.FnExactShownIn'. -/
def fnExactShownInCard : Claim7 := { stood := { row := fnExactShownInRow, standIns := [], harness := (true, "34dd7794691b4af1920a64e3d7f27bf4658cc102da859fd3529f33e787d61e95"), looks := false }, kinds := [], alts := [], laidByText := true, laidKinds := [.sentinel], laidTests := true, laidLooks := .later }
def FnExactShownInCardSaid : Prop := Claim7.holds Tryd.pinned (.plain (OpenSpec.ofChange fnExactShownInSpec)) fnExactShownInCard

/-- THE SECOND FORM's CARD OF 'laws.FnExactGoodTree'. -/
def fnExactGoodTreeUptoCard : Claim7 := { stood := { row := fnExactGoodTreeUptoRow, standIns := [], harness := (true, "34dd7794691b4af1920a64e3d7f27bf4658cc102da859fd3529f33e787d61e95"), looks := false }, kinds := [], alts := [], laidByText := true, laidKinds := [.sentinel], laidTests := true, laidLooks := .later }
def FnExactGoodTreeUptoCardSaid : Prop := Claim7.holds Tryd.pinned (.plain (OpenSpec.upto fnExactGoodTreeSpec)) fnExactGoodTreeUptoCard

/-- THE SECOND FORM's CARD OF 'laws.FnExactShownIn'. -/
def fnExactShownInUptoCard : Claim7 := { stood := { row := fnExactShownInUptoRow, standIns := [], harness := (true, "34dd7794691b4af1920a64e3d7f27bf4658cc102da859fd3529f33e787d61e95"), looks := false }, kinds := [], alts := [], laidByText := true, laidKinds := [.sentinel], laidTests := true, laidLooks := .later }
def FnExactShownInUptoCardSaid : Prop := Claim7.holds Tryd.pinned (.plain (OpenSpec.upto fnExactShownInSpec)) fnExactShownInUptoCard
end Rows
end Go.Proofs.YtdgagjnkbmckoaaDoor
