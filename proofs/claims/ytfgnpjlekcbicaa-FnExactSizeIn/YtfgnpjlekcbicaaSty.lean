/-
  Styles as plain data, and contracts of the small functions over them: the law's copies, its comparisons of a style with itself, the plain style of both sides.
-/
import Derived.Test.YtfgnpjlekcbicaaRows
import Derived.Test.YtfgnpjlekcbicaaWide
import Derived.WalkKit
import Derived.ProofKit
import Derived.OpenShut
import Derived.WalkSpells
import Derived.WalkLawsBesides
import Derived.Deep.QuietTactic
import Derived.BigQuiet
import Derived.Great.Walk
namespace Go.Proofs.Ytfgnpjlekcbicaa
open Go.ChangeShapes Go.WideShapes Go.ChangeAt Go.RowKit
set_option linter.unusedVariables false

structure Sz where
  a : Bool
  p : Bool
  n : Int
structure St where
  sh : Int
  fl : Int
  cl : Int
  w : Sz
  h : Sz
  mn : Int
  mx : Int
  mt : Int
  mr : Sz
  mb : Int
  ml : Sz
  bo : Int
  pa : Int
  wh : Int
  al : Int
  lh : Int
  ri : Int
  dn : Int

theorem toSize_any (a p : Bool) (n : Int) (w : World) :
    Calls Try.prog 10 #[.agg #[.bool a, .bool p, .int .i64 n]] w fun e w' => e = .returned (.agg #[.bool a, .bool p, .int .i64 n]) ∧ Below w.heap.size w w' := by
  go_enter Try.func10, Try.ntmps10
  go_wp2
  refine bodyPost_ret (v := .agg #[.bool a, .bool p, .int .i64 n]) (by simp [results, Try.results10, go_sem]) rfl ⟨rfl, ?_⟩
  repeat (first | exact Below.refl _ _ | refine Below.setCell ?_ (by first | (simp; done) | (simp; omega)) _ | refine Below.alloc ?_ (by first | (simp; done) | (simp; omega)) _)

end Go.Proofs.Ytfgnpjlekcbicaa
