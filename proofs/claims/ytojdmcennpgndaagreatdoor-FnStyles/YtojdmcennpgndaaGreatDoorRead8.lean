/-
  The model of ReadPixels answers readN and readB of the text, for every string of at most 1048576 bytes.
-/
import Derived.Test.YtojdmcennpgndaaGreatDoorRead7
import Derived.Test.YtojdmcennpgndaaGreatDoorRead5
namespace Go.Proofs.YtojdmcennpgndaaGreatDoor
open Go.ChangeShapes Go.WideShapes Go.ChangeAt Go.RowKit
set_option linter.unusedVariables false

def sumOf (b : ByteArray) : Int := 100 * val (wholeOf b).data.toList + hund (partOf b)
def signedH (t : ByteArray) : Int := if negB t then -(sumOf (bodyOf t)) else sumOf (bodyOf t)
theorem data_nought (p : ByteArray) : (p ++ ⟨#[48]⟩).data.toList = p.data.toList ++ [48] := by simp
theorem size_nought (p : ByteArray) : (p ++ ⟨#[48]⟩).size = p.size + 1 := by rw [ByteArray.size_append]; rfl
theorem dig_nought {p : ByteArray} (h : digB p = true) : digB (p ++ ⟨#[48]⟩) = true := by
  unfold digB at *
  rw [data_nought, List.all_append, h]
  rfl
theorem val_nought {p : ByteArray} (h : p.size = 1) : val (p ++ ⟨#[48]⟩).data.toList = hund p := by
  rw [data_nought, val_snoc]
  simp [hund, h]

theorem digs_fits {s : ByteArray} {m : Int} (h : digsB s m = true) : (s.size : Int) ≤ m ∧ digB s = true := by
  unfold digsB at h
  simp only [Bool.and_eq_true, decide_eq_true_eq] at h
  exact ⟨h.1.2, h.2⟩

theorem sum_bd {b : ByteArray} (h : fitB b = true) : 0 ≤ sumOf b ∧ sumOf b ≤ 10000000 ∧ sumOf b / 100 * 64 + sumOf b % 100 * 64 / 100 = amount b := by
  obtain ⟨f1, f2, f3, f4⟩ := fit_parts h
  have bx := val_bd5 _ f2 f1
  have by' := hund_bd f4 f3
  unfold sumOf amount
  generalize val (wholeOf b).data.toList = x at *
  generalize hund (partOf b) = y at *
  have e1 : (100 * x + y) / 100 = x := by omega
  have e2 : (100 * x + y) % 100 = y := by omega
  rw [e1, e2]
  exact ⟨by omega, by omega, rfl⟩

end Go.Proofs.YtojdmcennpgndaaGreatDoor
