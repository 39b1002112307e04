/-
  Boxes as plain data.
-/
import Derived.Test.YtbnnpgkeggjodaaDoorRows
import Derived.Test.YtbnnpgkeggjodaaDoorWide
import Derived.WalkKit
import Derived.ProofKit
import Derived.OpenShut
import Derived.WalkSpells
import Derived.WalkLawsBesides
import Derived.Deep.QuietTactic
import Derived.BigQuiet
import Derived.Great.Walk
namespace Go.Proofs.YtbnnpgkeggjodaaDoor
set_option linter.unusedVariables false

structure Asd where
  sd : Int
  x : Int
  y : Int
  w : Int
  h : Int
def asL (x : Asd) : List Value := [.int .i64 x.sd, .int .i64 x.x, .int .i64 x.y, .int .i64 x.w, .int .i64 x.h]
theorem asL_len (x : Asd) : (asL x).length = 5 := rfl
def as0 : Asd := ⟨0, 0, 0, 0, 0⟩
end Go.Proofs.YtbnnpgkeggjodaaDoor
