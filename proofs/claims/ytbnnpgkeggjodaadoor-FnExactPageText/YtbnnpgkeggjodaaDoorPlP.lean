/-
  Boxes as plain data.
-/
import Derived.Test.YtbnnpgkeggjodaaDoorRows
import Derived.Test.YtbnnpgkeggjodaaDoorWide
import Derived.WalkKit
import Derived.ProofKit
import Derived.OpenShut
import Derived.WalkSpells
import Derived.WalkLawsBesides
import Derived.Deep.QuietTactic
import Derived.BigQuiet
import Derived.Great.Walk
namespace Go.Proofs.YtbnnpgkeggjodaaDoor
set_option linter.unusedVariables false

structure Plc where
  x : Int
  y : Int
  w : Int
  h : Int
def plL (x : Plc) : List Value := [.int .i64 x.x, .int .i64 x.y, .int .i64 x.w, .int .i64 x.h]
theorem plL_len (x : Plc) : (plL x).length = 4 := rfl
def pl0 : Plc := ⟨0, 0, 0, 0⟩
end Go.Proofs.YtbnnpgkeggjodaaDoor
