/-
  The program's ReadPixels answers readN and readB of the text, for every string of at most 1048576 bytes.
-/
import Derived.Test.YtijondjiehoafaaDoorRead4
namespace Go.Proofs.YtijondjiehoafaaDoor
open Go.ChangeShapes Go.WideShapes Go.ChangeAt Go.RowKit

theorem read_no {s : ByteArray} (h : readB s = false) : readN s = 0 := by simp [readN, h]
theorem read_is {s : ByteArray} (h1 : pxB s = true) (h2 : fitB (bodyOf (numOf s)) = true) : readB s = lenGood (signed (numOf s)) ∧ readN s = if lenGood (signed (numOf s)) then signed (numOf s) else 0 := by
  have e : readB s = lenGood (signed (numOf s)) := by simp [readB, h1, h2]
  refine ⟨e, ?_⟩
  simp [readN, e]

theorem impl_read (s : ByteArray) (w : World) (hs : s.size ≤ 1048576) :
    Calls Tryd.prog 21 #[.string s] w fun e w' => e = .returned (.tuple #[.int .i64 (readN s), .bool (readB s)]) ∧ ∃ n, w' = w.drewN n := by
  have hn := numOf_size s
  have hb := body_size (numOf s)
  have hw := whole_size (bodyOf (numOf s))
  have hp := part_size (bodyOf (numOf s))
  have CS := fun w => cutSuffix_any s w hs
  have CP := fun w => cutPrefix_any (numOf s) w (by omega)
  have CC := fun w => cut_any (bodyOf (numOf s)) w (by omega)
  have D1 := fun w => isDigits_any (wholeOf (bodyOf (numOf s))) 5 w (by omega)
  have D2 := fun w => isDigits_any (partOf (bodyOf (numOf s))) 2 w (by omega)
  cases h1 : pxB s with
  | false =>
    have e : readB s = false := by simp [readB, h1]
    rw [read_no e, e]
    rw [h1] at CS
    exact impl_a s _ _ _ _ _ _ w CS CP CC
  | true =>
    rw [h1] at CS
    cases h2 : digsB (wholeOf (bodyOf (numOf s))) 5 with
    | false =>
      have e : readB s = false := by simp [readB, fitB, h2]
      rw [read_no e, e]
      rw [h2] at D1
      exact impl_b s _ _ _ _ _ _ w CS CP CC D1
    | true =>
      rw [h2] at D1
      cases h3 : dotB (bodyOf (numOf s)) with
      | true =>
        rw [h3] at CC
        cases h4 : digsB (partOf (bodyOf (numOf s))) 2 with
        | false =>
          have e : readB s = false := by simp [readB, fitB, h3, h4]
          rw [read_no e, e]
          rw [h4] at D2
          exact impl_c s _ _ _ _ _ w CS CP CC D1 D2
        | true =>
          rw [h4] at D2
          have hf : fitB (bodyOf (numOf s)) = true := by simp [fitB, h2, h4]
          obtain ⟨f1, f2, f3, f4⟩ := fit_parts hf
          obtain ⟨e1, e2⟩ := read_is h1 hf
          have V := fun w => digitsValue_any (wholeOf (bodyOf (numOf s))) w f1 f2
          have H := fun w => hundredthsOf_any (partOf (bodyOf (numOf s))) w f4 f3
          have bx := val_bd5 _ f2 f1
          have by' := hund_bd f4 f3
          have T := fun w => told_any (signed (numOf s)) w
          rw [e1, e2]
          cases h5 : negB (numOf s) with
          | true =>
            rw [h5] at CP
            have es : signed (numOf s) = -(amount (bodyOf (numOf s))) := by simp [signed, h5]
            rw [es] at T ⊢
            exact impl_d_neg s _ _ _ _ _ _ _ _ w CS CP CC D1 D2 V H bx by' T
          | false =>
            rw [h5] at CP
            have es : signed (numOf s) = amount (bodyOf (numOf s)) := by simp [signed, h5]
            rw [es] at T ⊢
            exact impl_d_pos s _ _ _ _ _ _ _ _ w CS CP CC D1 D2 V H bx by' T
      | false =>
        rw [h3] at CC
        have hf : fitB (bodyOf (numOf s)) = true := by simp [fitB, h2, h3]
        obtain ⟨f1, f2, f3, f4⟩ := fit_parts hf
        obtain ⟨e1, e2⟩ := read_is h1 hf
        have V := fun w => digitsValue_any (wholeOf (bodyOf (numOf s))) w f1 f2
        have H := fun w => hundredthsOf_any (partOf (bodyOf (numOf s))) w f4 f3
        have bx := val_bd5 _ f2 f1
        have by' := hund_bd f4 f3
        have T := fun w => told_any (signed (numOf s)) w
        rw [e1, e2]
        cases h5 : negB (numOf s) with
        | true =>
          rw [h5] at CP
          have es : signed (numOf s) = -(amount (bodyOf (numOf s))) := by simp [signed, h5]
          rw [es] at T ⊢
          exact impl_e_neg s _ _ _ _ _ _ _ _ w CS CP CC D1 V H bx by' T
        | false =>
          rw [h5] at CP
          have es : signed (numOf s) = amount (bodyOf (numOf s)) := by simp [signed, h5]
          rw [es] at T ⊢
          exact impl_e_pos s _ _ _ _ _ _ _ _ w CS CP CC D1 V H bx by' T
end Go.Proofs.YtijondjiehoafaaDoor
