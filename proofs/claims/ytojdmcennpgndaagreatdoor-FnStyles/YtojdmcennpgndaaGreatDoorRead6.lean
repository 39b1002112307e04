/-
  The model of ReadPixels answers readN and readB of the text, for every string of at most 1048576 bytes.
-/
import Derived.Test.YtojdmcennpgndaaGreatDoorRead3
namespace Go.Proofs.YtojdmcennpgndaaGreatDoor
open Go.ChangeShapes Go.WideShapes Go.ChangeAt Go.RowKit
set_option linter.unusedVariables false
theorem neg_first (t : ByteArray) (h : 1 ≤ t.size) : negB t = (((t[0].toNat : Nat) : Int) == 45) := by
  have e : (t.extract 0 1).toList = [t[0]] := by
    rw [Lib.toList_data, ByteArray.data_extract, Array.toList_extract]
    have := take_byte t 0 (by omega)
    simpa using this
  unfold negB
  rw [e]
  simp only [h, decide_true, Bool.true_and]
  rw [Bool.eq_iff_iff]
  simp only [beq_iff_eq, List.cons.injEq, and_true]
  constructor
  · intro k; rw [k]; rfl
  · intro k; exact UInt8.toNat_inj.1 (by have : t[0].toNat = 45 := by omega
                                         rw [this]; rfl)
theorem neg_empty (t : ByteArray) (h : ¬ 1 ≤ t.size) : negB t = false := by simp [negB, h]

end Go.Proofs.YtojdmcennpgndaaGreatDoor
