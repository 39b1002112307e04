/-
  Contracts of ReadPixels and of its model: both answer readN and readB of the text, for every string of at most 1048576 bytes.
-/
import Derived.Test.YtijondjiehoafaaDoorRead2
namespace Go.Proofs.YtijondjiehoafaaDoor
open Go.ChangeShapes Go.WideShapes Go.ChangeAt Go.RowKit

theorem ret2I {a b : Int} {x y : Bool} (h : a = b) (k : x = y) : Ending.returned (.tuple #[.int .i64 a, .bool x]) = .returned (.tuple #[.int .i64 b, .bool y]) := by rw [h, k]
/-- The hundredths that the part behind a point tells. -/
def hund (p : ByteArray) : Int := if p.size = 1 then 10 * val p.data.toList else val p.data.toList
/-- A number as ReadPixels wants it. -/
def fitB (b : ByteArray) : Bool := digsB (wholeOf b) 5 && (!dotB b || digsB (partOf b) 2)
def lenGood (n : Int) : Bool := decide (-1000000 ≤ n ∧ n ≤ 1000000)
def amount (b : ByteArray) : Int := val (wholeOf b).data.toList * 64 + hund (partOf b) * 64 / 100
def signed (t : ByteArray) : Int := if negB t then -(amount (bodyOf t)) else amount (bodyOf t)
def readB (s : ByteArray) : Bool := pxB s && (fitB (bodyOf (numOf s)) && lenGood (signed (numOf s)))
def readN (s : ByteArray) : Int := if readB s then signed (numOf s) else 0

theorem digB_empty : digB ⟨#[]⟩ = true := rfl
theorem fit_parts {b : ByteArray} (h : fitB b = true) : (wholeOf b).size ≤ 5 ∧ digB (wholeOf b) = true ∧ (partOf b).size ≤ 2 ∧ digB (partOf b) = true := by
  unfold fitB at h
  rw [Bool.and_eq_true] at h
  obtain ⟨h1, h2⟩ := h
  unfold digsB at h1
  simp only [Bool.and_eq_true, decide_eq_true_eq] at h1
  refine ⟨by omega, h1.2, ?_⟩
  cases hd : dotB b with
  | false =>
    have e : partOf b = ⟨#[]⟩ := by simp [partOf, hd]
    rw [e]
    exact ⟨Nat.zero_le _, digB_empty⟩
  | true =>
    rw [hd] at h2
    simp only [Bool.not_true, Bool.false_or] at h2
    unfold digsB at h2
    simp only [Bool.and_eq_true, decide_eq_true_eq] at h2
    exact ⟨by omega, h2.2⟩
theorem hund_bd {p : ByteArray} (h : digB p = true) (h2 : p.size ≤ 2) : 0 ≤ hund p ∧ hund p ≤ 99 := by
  unfold hund
  have b2 := val_bd2 p h h2
  split
  · rename_i e
    have := val_bd1 p h e
    omega
  · exact b2

set_option maxHeartbeats 1000000 in
theorem hundredthsOf_any (p : ByteArray) (w : World) (h : digB p = true) (h2 : p.size ≤ 2) :
    Calls Tryd.prog 56 #[.string p] w fun e w' => e = .returned (.int .i64 (hund p)) ∧ w' = w := by
  have D := fun w' => digitsValue_any p w' (by omega) h
  have b2 := val_bd2 p h h2
  by_cases e : p.size = 1
  · have HH : Hid (hund p = 10 * val p.data.toList) := by show hund p = _; simp [hund, e]
    obtain ⟨v, hv⟩ : ∃ v, v = val p.data.toList := ⟨_, rfl⟩
    have HH' : Hid (hund p = 10 * v) := by rw [hv]; exact HH
    rw [← hv] at D b2
    clear hv HH h
    have e' : ((p.size : Int) == 1) = true := by simp [e]
    clear e
    go_enter Tryd.func56, Tryd.ntmps56
    go_wp2_with (go_at_call 55; refine (D _).mono ?_; rintro e w' ⟨rfl, rfl⟩)
    go_ret
    exact ⟨retI (by rw [HH'.out]; omega), rfl⟩
  · have HH : Hid (hund p = val p.data.toList) := by show hund p = _; simp [hund, e]
    obtain ⟨v, hv⟩ : ∃ v, v = val p.data.toList := ⟨_, rfl⟩
    have HH' : Hid (hund p = v) := by rw [hv]; exact HH
    rw [← hv] at D b2
    clear hv HH h
    have e' : ((p.size : Int) == 1) = false := by simp; omega
    clear e
    go_enter Tryd.func56, Tryd.ntmps56
    go_wp2_with (go_at_call 55; refine (D _).mono ?_; rintro e w' ⟨rfl, rfl⟩)
    go_ret
    exact ⟨retI (by rw [HH'.out]), rfl⟩

theorem told_yes (n : Int) (w : World) (h1 : -1000000 ≤ n) (h2 : n ≤ 1000000) :
    Calls Tryd.prog 57 #[.int .i64 n] w fun e w' => e = .returned (.tuple #[.int .i64 n, .bool true]) ∧ w' = w := by
  go_enter Tryd.func57, Tryd.ntmps57
  go_wp2
  go_ret2
  exact ⟨rfl, rfl⟩
theorem told_no (n : Int) (w : World) (h : ¬ (-1000000 ≤ n ∧ n ≤ 1000000)) :
    Calls Tryd.prog 57 #[.int .i64 n] w fun e w' => e = .returned (.tuple #[.int .i64 0, .bool false]) ∧ w' = w := by
  by_cases h1 : -1000000 ≤ n
  · have h2 : ¬ n ≤ 1000000 := by omega
    clear h
    go_enter Tryd.func57, Tryd.ntmps57
    go_wp2
    go_ret2
    exact ⟨rfl, rfl⟩
  · clear h
    go_enter Tryd.func57, Tryd.ntmps57
    go_wp2
    go_ret2
    exact ⟨rfl, rfl⟩
theorem told_any (n : Int) (w : World) :
    Calls Tryd.prog 57 #[.int .i64 n] w fun e w' => e = .returned (.tuple #[.int .i64 (if lenGood n then n else 0), .bool (lenGood n)]) ∧ w' = w := by
  by_cases h : -1000000 ≤ n ∧ n ≤ 1000000
  · have e : lenGood n = true := decide_eq_true h
    simp only [e, if_true]
    exact told_yes n w h.1 h.2
  · have e : lenGood n = false := decide_eq_false h
    simp only [e, Bool.false_eq_true, if_false]
    exact told_no n w h
end Go.Proofs.YtijondjiehoafaaDoor
