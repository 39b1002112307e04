/-
  Lines as plain data.
-/
import Derived.Test.YtbnnpgkeggjodaaDoorRows
import Derived.Test.YtbnnpgkeggjodaaDoorWide
import Derived.WalkKit
import Derived.ProofKit
import Derived.OpenShut
import Derived.WalkSpells
import Derived.WalkLawsBesides
import Derived.Deep.QuietTactic
import Derived.BigQuiet
import Derived.Great.Walk
namespace Go.Proofs.YtbnnpgkeggjodaaDoor
set_option linter.unusedVariables false

structure Ln where
  bx : Int
  x : Int
  y : Int
  w : Int
  h : Int
  tx : ByteArray
def lnL (x : Ln) : List Value := [.int .i64 x.bx, .int .i64 x.x, .int .i64 x.y, .int .i64 x.w, .int .i64 x.h, .string x.tx]
theorem lnL_len (x : Ln) : (lnL x).length = 6 := rfl
def ln0 : Ln := ⟨0, 0, 0, 0, 0, ByteArray.empty⟩
end Go.Proofs.YtbnnpgkeggjodaaDoor
