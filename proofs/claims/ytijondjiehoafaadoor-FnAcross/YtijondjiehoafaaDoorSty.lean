/-
  Styles as plain data, and contracts of the small functions over them: the law's copies, its comparisons of a style with itself, the plain style of both sides.
-/
import Derived.Test.YtijondjiehoafaaDoorRows
import Derived.Test.YtijondjiehoafaaDoorWide
import Derived.WalkKit
import Derived.ProofKit
import Derived.OpenShut
import Derived.WalkSpells
import Derived.WalkLawsBesides
import Derived.Deep.QuietTactic
import Derived.BigQuiet
import Derived.Great.Walk
namespace Go.Proofs.YtijondjiehoafaaDoor
open Go.ChangeShapes Go.WideShapes Go.ChangeAt Go.RowKit
set_option linter.unusedVariables false

structure Sz where
  a : Bool
  p : Bool
  n : Int
structure St where
  sh : Int
  fl : Int
  cl : Int
  w : Sz
  h : Sz
  mn : Int
  mx : Int
  mt : Int
  mr : Sz
  mb : Int
  ml : Sz
  bo : Int
  pa : Int
  wh : Int
  al : Int
  lh : Int
  ri : Int
  dn : Int

theorem toSize_any (a p : Bool) (n : Int) (w : World) :
    Calls Tryd.prog 32 #[.agg #[.bool a, .bool p, .int .i64 n]] w fun e w' => e = .returned (.agg #[.bool a, .bool p, .int .i64 n]) ∧ Below w.heap.size w w' := by
  go_enter Tryd.func32, Tryd.ntmps32
  go_wp2
  refine bodyPost_ret (v := .agg #[.bool a, .bool p, .int .i64 n]) (by simp [results, Tryd.results32, go_sem]) rfl ⟨rfl, ?_⟩
  repeat (first | exact Below.refl _ _ | refine Below.setCell ?_ (by first | (simp; done) | (simp; omega)) _ | refine Below.alloc ?_ (by first | (simp; done) | (simp; omega)) _)

set_option maxRecDepth 100000 in
theorem specPlain_at (w : World) :
    Calls Tryd.prog 75 #[] w fun e w' => e = .returned (.agg #[.int .i64 1, .int .i64 0, .int .i64 0, .bool true, .bool false, .int .i64 0, .bool true, .bool false, .int .i64 0, .int .i64 0, .int .i64 (-1), .int .i64 0, .bool false, .bool false, .int .i64 0, .int .i64 0, .bool false, .bool false, .int .i64 0, .int .i64 0, .int .i64 0, .int .i64 1, .int .i64 1, .int .i64 0, .int .i64 0, .int .i64 0]) ∧ w' = w.alloc (.cells (#[.int .i64 1, .int .i64 0, .int .i64 0, .bool true, .bool false, .int .i64 0, .bool true, .bool false, .int .i64 0, .int .i64 0, .int .i64 (-1), .int .i64 0, .bool false, .bool false, .int .i64 0, .int .i64 0, .bool false, .bool false, .int .i64 0, .int .i64 0, .int .i64 0, .int .i64 1, .int .i64 1, .int .i64 0, .int .i64 0, .int .i64 0]) 32) := by
  go_enter Tryd.func75, Tryd.ntmps75
  go_wp2_with (first | (refine wpList_buildTo rfl 32 _ rfl _ rfl (#[.int .i64 1, .int .i64 0, .int .i64 0, .bool true, .bool false, .int .i64 0, .bool true, .bool false, .int .i64 0, .int .i64 0, .int .i64 (-1), .int .i64 0, .bool false, .bool false, .int .i64 0, .int .i64 0, .bool false, .bool false, .int .i64 0, .int .i64 0, .int .i64 0, .int .i64 1, .int .i64 1, .int .i64 0, .int .i64 0, .int .i64 0]) (by kernel_rfl) ?_) | (refine wpList_store_new rfl 32 _ _ rfl rfl (#[.int .i64 1, .int .i64 0, .int .i64 0, .bool true, .bool false, .int .i64 0, .bool true, .bool false, .int .i64 0, .int .i64 0, .int .i64 (-1), .int .i64 0, .bool false, .bool false, .int .i64 0, .int .i64 0, .bool false, .bool false, .int .i64 0, .int .i64 0, .int .i64 0, .int .i64 1, .int .i64 1, .int .i64 0, .int .i64 0, .int .i64 0]) 32 _ _ rfl rfl rfl (by kernel_rfl) rfl (by kernel_rfl) ?_))
  exact bodyPost_ret (v := .agg #[.int .i64 1, .int .i64 0, .int .i64 0, .bool true, .bool false, .int .i64 0, .bool true, .bool false, .int .i64 0, .int .i64 0, .int .i64 (-1), .int .i64 0, .bool false, .bool false, .int .i64 0, .int .i64 0, .bool false, .bool false, .int .i64 0, .int .i64 0, .int .i64 0, .int .i64 1, .int .i64 1, .int .i64 0, .int .i64 0, .int .i64 0]) (results_cell_row Tryd.results75 _ _ _ _ _ _ _ rfl (heap_alloc_new _ _) Tryd.underlying32 rfl (by kernel_rfl)) rfl ⟨rfl, rfl⟩
end Go.Proofs.YtijondjiehoafaaDoor
