/-
  What fits is all that fits, and a line's parts are its height: the law FnFits answers true at every two byte slices of together at most 1048576 bytes, where the table of letters holds what the program lays in it.
-/
import Derived.Test.YtllkbokkhdomoaaRDoorFits2
import Derived.Test.YtllkbokkhdomoaaRDoorParts
import Derived.Test.YtllkbokkhdomoaaRDoorDrawFits
namespace Go.Proofs.YtllkbokkhdomoaaRDoor
open Go.ChangeShapes Go.WideShapes Go.ChangeAt Go.RowKit
set_option linter.unusedVariables false

theorem cut_at (s : ByteArray) (k j : Nat) (hk : k ≤ s.size) (hj : j < (s.extract 0 k).size) : (s.extract 0 k)[j] = s[j]'(by rw [cut_size s k hk] at hj; omega) := by
  simp [ByteArray.getElem_extract]
theorem advB_cut {fa fd fn fu fb : Int} {s : ByteArray} {k : Nat} (h : advB fa fd fn fu fb s = true) (hk : k ≤ s.size) : advB fa fd fn fu fb (s.extract 0 k) = true := by
  simp only [advB, Bool.and_eq_true, decide_eq_true_eq] at h ⊢
  obtain ⟨h1, h2, h3⟩ := h
  refine ⟨h1, by rw [cut_size s k hk]; omega, ?_⟩
  refine decide_eq_true fun j hj => ?_
  rw [cut_at s k j hk hj]
  exact plainB_at h3 j _
theorem advN_cut {fa fd fn fu fb : Int} {s : ByteArray} {k : Nat} (h : advB fa fd fn fu fb s = true) (hk : k ≤ s.size) : advN fa fd fn fu fb (s.extract 0 k) = advK fn fu fb s k := by
  unfold advN
  rw [advB_cut h hk, if_pos rfl, advK_cut fn fu fb s k hk]
/-- AdvanceOf of a text's first k letters. -/
theorem implAdv_cut (fa fd fn fu fb : Int) (s : ByteArray) (k : Nat) (w : World) (h : advB fa fd fn fu fb s = true) (hk : k ≤ s.size) (hs : s.size ≤ 1000) (hK : Kinds w) :
    Calls Tryd.prog 9 #[.agg #[.int .i64 fa, .int .i64 fd, .int .i64 fn, .int .i64 fu, .int .i64 fb], .string (s.extract 0 k)] w fun e w' => e = .returned (.tuple #[.int .i64 (advK fn fu fb s k), .bool true]) ∧ Below w.heap.size w w' := by
  have := implAdvance_any fa fd fn fu fb (s.extract 0 k) w (by rw [cut_size s k hk]; unfold maxLen; omega) hK
  rw [advB_cut h hk, advN_cut h hk] at this
  exact this

/-- The two ways of LineParts. -/
theorem lineV_cases (fa fd fn fu fb h : Int) : (lineV fa fd fn fu fb h = .tuple #[.int .i64 0, .int .i64 0, .bool false]) ∨
    (∃ x : Int, lineV fa fd fn fu fb h = .tuple #[.int .i64 x, .int .i64 (whole fa fd h - x), .bool true] ∧ 0 ≤ fa ∧ fa ≤ 6400 ∧ 0 ≤ fd ∧ fd ≤ 6400 ∧ 0 ≤ h ∧ h ≤ 64000 ∧ -100000 ≤ x ∧ x ≤ 100000) := by
  by_cases e : fontB fa fd fn fu fb = true ∧ inB 0 64000 h = true
  · refine .inr ⟨above fa fd h, if_pos e, ?_⟩
    have hf := fontB_yes e.1
    have hh := inB_yes e.2
    have hw := whole_bd (fa := fa) (fd := fd) (h := h) (by omega) (by omega) (by omega) (by omega) (by omega) (by omega)
    have hb := half_bd (whole fa fd h - fa - fd)
    unfold above
    omega
  · exact .inl (if_neg e)
end Go.Proofs.YtllkbokkhdomoaaRDoor
