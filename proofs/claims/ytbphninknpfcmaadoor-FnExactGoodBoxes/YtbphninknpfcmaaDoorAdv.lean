/-
  Contracts of a letter's width and of a plain text, of the program and of its model.
-/
import Derived.Test.YtbphninknpfcmaaDoorAdvPlain
import Derived.Deep.RegionWith
import Derived.Deep.DeepFit
namespace Go.Proofs.YtbphninknpfcmaaDoor
open Go.ChangeShapes Go.WideShapes Go.ChangeAt Go.RowKit
set_option linter.unusedVariables false

theorem ret_i {a b : Int} (h : a = b) : Ending.returned (.int .i64 a) = .returned (.int .i64 b) := by rw [h]

end Go.Proofs.YtbphninknpfcmaaDoor
