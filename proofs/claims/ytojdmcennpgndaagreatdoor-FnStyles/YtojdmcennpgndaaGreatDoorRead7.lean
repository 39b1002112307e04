/-
  The model of ReadPixels, way by way, over what its reader of hundredths answers.
-/
import Derived.Test.YtojdmcennpgndaaGreatDoorRead6
namespace Go.Proofs.YtojdmcennpgndaaGreatDoor
open Go.ChangeShapes Go.WideShapes Go.ChangeAt Go.RowKit
set_option linter.unusedVariables false

theorem specGood_any (n : Int) (w : World) : Calls Tryz.prog 31 #[.int .i64 n] w fun e w' => e = .returned (.bool (lenGood n)) ∧ w' = w := by
  by_cases h1 : -1000000 ≤ n
  · by_cases h2 : n ≤ 1000000
    · have HG : Hid (lenGood n = true) := decide_eq_true ⟨h1, h2⟩
      go_enter Tryz.func31, Tryz.ntmps31
      go_wp2
      go_ret
      exact ⟨retB HG.out.symm, rfl⟩
    · have HG : Hid (lenGood n = false) := decide_eq_false (by omega)
      go_enter Tryz.func31, Tryz.ntmps31
      go_wp2
      go_ret
      exact ⟨retB HG.out.symm, rfl⟩
  · have HG : Hid (lenGood n = false) := decide_eq_false (by omega)
    go_enter Tryz.func31, Tryz.ntmps31
    go_wp2
    go_ret
    exact ⟨retB HG.out.symm, rfl⟩

end Go.Proofs.YtojdmcennpgndaaGreatDoor
