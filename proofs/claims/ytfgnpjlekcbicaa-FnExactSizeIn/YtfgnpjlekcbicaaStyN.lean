/-
  The program's method 'good' on one thing of a style: a number between its limits; a size by its own rule.
-/
import Derived.Test.YtfgnpjlekcbicaaStyB
import Derived.Deep.RegionHeld3
namespace Go.Proofs.Ytfgnpjlekcbicaa
open Go.ChangeShapes Go.WideShapes Go.ChangeAt Go.RowKit
set_option linter.unusedVariables false

theorem inB_is {lo hi n : Int} (h : lo ≤ n ∧ n ≤ hi) : true = inB lo hi n := (decide_eq_true h).symm
theorem inB_not {lo hi n : Int} (h : ¬ (lo ≤ n ∧ n ≤ hi)) : false = inB lo hi n := (decide_eq_false h).symm
def szT (lo hi : Int) (np a p : Bool) (n : Int) : Bool := if a then (decide (n = 0) && !p) else if p then (!np && decide (max lo (-100000) ≤ n) && decide (n ≤ 100000)) else inB lo hi n

end Go.Proofs.Ytfgnpjlekcbicaa
