/-
  The program's StyleText, for every style.
-/
import Derived.Test.YtdgagjnkbmckoaaGreatDoorTellS
namespace Go.Proofs.YtdgagjnkbmckoaaGreatDoor
open Go.ChangeShapes Go.WideShapes Go.ChangeAt Go.RowKit
set_option linter.unusedVariables false

def txtB (s : St) : Bool := styleB s && okTo s 18
def txtT (s : St) : ByteArray := if txtB s then textTo s 18 else ⟨#[]⟩
end Go.Proofs.YtdgagjnkbmckoaaGreatDoor
