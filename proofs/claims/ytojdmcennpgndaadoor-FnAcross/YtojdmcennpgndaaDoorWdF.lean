/-
  The program's FloatAcross, for every style and every three numbers.
-/
import Derived.Test.YtojdmcennpgndaaDoorWdK
namespace Go.Proofs.YtojdmcennpgndaaDoor
open Go.ChangeShapes Go.WideShapes Go.ChangeAt Go.RowKit
set_option linter.unusedVariables false

theorem fl_no {s : St} {b nr wi : Int} (h : okF s b nr wi = false) : Value.tuple #[.agg (#[.int .i64 0, .int .i64 0, .int .i64 0]), .bool false] = flV s b nr wi := by simp [flV, h, acV]
theorem fl_yes {s : St} {b nr wi : Int} (h : okF s b nr wi = true) : Value.tuple #[.agg (#[.int .i64 (mlN s b), .int .i64 (flW s b nr wi), .int .i64 (mrN s b)]), .bool true] = flV s b nr wi := by simp [flV, h, acV]
end Go.Proofs.YtojdmcennpgndaaDoor
