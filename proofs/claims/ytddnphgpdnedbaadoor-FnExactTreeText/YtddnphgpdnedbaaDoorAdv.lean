/-
  Contracts of a letter's width and of a plain text, of the program and of its model.
-/
import Derived.Test.YtddnphgpdnedbaaDoorAdvPlain
import Derived.Deep.RegionWith
import Derived.Deep.DeepFit
namespace Go.Proofs.YtddnphgpdnedbaaDoor
open Go.ChangeShapes Go.WideShapes Go.ChangeAt Go.RowKit
set_option linter.unusedVariables false

theorem ret_i {a b : Int} (h : a = b) : Ending.returned (.int .i64 a) = .returned (.int .i64 b) := by rw [h]

end Go.Proofs.YtddnphgpdnedbaaDoor
