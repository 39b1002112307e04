/-
  Boxes as plain data.
-/
import Derived.Test.YtbnnpgkeggjodaaDoorRows
import Derived.Test.YtbnnpgkeggjodaaDoorWide
import Derived.WalkKit
import Derived.ProofKit
import Derived.OpenShut
import Derived.WalkSpells
import Derived.WalkLawsBesides
import Derived.Deep.QuietTactic
import Derived.BigQuiet
import Derived.Great.Walk
namespace Go.Proofs.YtbnnpgkeggjodaaDoor
set_option linter.unusedVariables false

structure Bx where
  kd : Int
  nd : Int
  up : Int
  tx : ByteArray
def bxL (x : Bx) : List Value := [.int .i64 x.kd, .int .i64 x.nd, .int .i64 x.up, .string x.tx]
theorem bxL_len (x : Bx) : (bxL x).length = 4 := rfl
def bx0 : Bx := ⟨0, 0, 0, ByteArray.empty⟩
end Go.Proofs.YtbnnpgkeggjodaaDoor
