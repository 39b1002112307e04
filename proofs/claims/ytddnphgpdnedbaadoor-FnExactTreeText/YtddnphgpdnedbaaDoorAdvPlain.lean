/-
  The plain mathematics of a text's width: the kind of a letter, its width, the sum over a list of letters, and how many letters fit.
-/
import Derived.Test.YtddnphgpdnedbaaDoorFont
namespace Go.Proofs.YtddnphgpdnedbaaDoor
open Go.ChangeShapes Go.WideShapes Go.ChangeAt Go.RowKit

/-- The kind of a letter: 1 narrow, 2 broad, 0 usual. -/
def kindOf (z : Int) : Int :=
  if z = 32 ∨ z = 33 ∨ z = 39 ∨ z = 44 ∨ z = 46 ∨ z = 58 ∨ z = 59 ∨ z = 105 ∨ z = 106 ∨ z = 108 ∨ z = 124 then 1
  else if z = 109 ∨ z = 119 ∨ z = 77 ∨ z = 87 ∨ z = 64 then 2 else 0
theorem kindOf_three (z : Int) : kindOf z = 0 ∨ kindOf z = 1 ∨ kindOf z = 2 := by
  unfold kindOf; split
  · exact .inr (.inl rfl)
  · split
    · exact .inr (.inr rfl)
    · exact .inl rfl
/-- The width of a letter. -/
def wid (fn fu fb z : Int) : Int := if kindOf z = 1 then fn else if kindOf z = 2 then fb else fu
theorem wid_0 {fn fu fb z : Int} (h : kindOf z = 0) : fu = wid fn fu fb z := by simp [wid, h]
theorem wid_1 {fn fu fb z : Int} (h : kindOf z = 1) : fn = wid fn fu fb z := by simp [wid, h]
theorem wid_2 {fn fu fb z : Int} (h : kindOf z = 2) : fb = wid fn fu fb z := by simp [wid, h]
theorem wid_bd {fn fu fb : Int} (z : Int) (h : 1 ≤ fn ∧ fn ≤ 6400 ∧ 1 ≤ fu ∧ fu ≤ 6400 ∧ 1 ≤ fb ∧ fb ≤ 6400) : 1 ≤ wid fn fu fb z ∧ wid fn fu fb z ≤ 6400 := by
  unfold wid; split
  · omega
  · split <;> omega

/-- The width of a row of letters. -/
def adv (fn fu fb : Int) (l : List UInt8) : Int := (l.map fun c => wid fn fu fb (c.toNat : Int)).sum
theorem adv_snoc (fn fu fb : Int) (l : List UInt8) (c : UInt8) : adv fn fu fb (l ++ [c]) = adv fn fu fb l + wid fn fu fb (c.toNat : Int) := by
  simp [adv]
theorem adv_bd {fn fu fb : Int} (h : 1 ≤ fn ∧ fn ≤ 6400 ∧ 1 ≤ fu ∧ fu ≤ 6400 ∧ 1 ≤ fb ∧ fb ≤ 6400) (l : List UInt8) : 0 ≤ adv fn fu fb l ∧ adv fn fu fb l ≤ 6400 * (l.length : Int) := by
  induction l with
  | nil => simp [adv]
  | cons c r ih =>
    have e : adv fn fu fb (c :: r) = wid fn fu fb (c.toNat : Int) + adv fn fu fb r := by simp [adv]
    have w := wid_bd (c.toNat : Int) h
    rw [e, List.length_cons]
    omega
theorem take_snoc (s : ByteArray) (k : Nat) (h : k < s.size) : s.data.toList.take (k + 1) = s.data.toList.take k ++ [s[k]] := by
  rw [List.take_succ_eq_append_getElem (by simpa using h)]; rfl
/-- The width of a text's first k letters. -/
def advK (fn fu fb : Int) (s : ByteArray) (k : Nat) : Int := adv fn fu fb (s.data.toList.take k)
theorem advK_zero (fn fu fb : Int) (s : ByteArray) : advK fn fu fb s 0 = 0 := rfl
theorem advK_next (fn fu fb : Int) (s : ByteArray) (k : Nat) (h : k < s.size) : advK fn fu fb s (k + 1) = advK fn fu fb s k + wid fn fu fb (s[k].toNat : Int) := by
  unfold advK; rw [take_snoc s k h, adv_snoc]
theorem advK_bd {fn fu fb : Int} (h : 1 ≤ fn ∧ fn ≤ 6400 ∧ 1 ≤ fu ∧ fu ≤ 6400 ∧ 1 ≤ fb ∧ fb ≤ 6400) (s : ByteArray) (k : Nat) : 0 ≤ advK fn fu fb s k ∧ advK fn fu fb s k ≤ 6400 * (k : Int) := by
  have b := adv_bd h (s.data.toList.take k)
  have l := List.length_take_le k s.data.toList
  unfold advK
  omega

/-- A text of plain letters. -/
def plainB (s : ByteArray) : Bool := decide (∀ j, (h : j < s.size) → 32 ≤ (s[j].toNat : Int) ∧ (s[j].toNat : Int) ≤ 126)
theorem plainB_at {s : ByteArray} (h : plainB s = true) (j : Nat) (hj : j < s.size) : 32 ≤ (s[j].toNat : Int) ∧ (s[j].toNat : Int) ≤ 126 := of_decide_eq_true h j hj
theorem plainB_mk {s : ByteArray} {k : Nat} (hk : ¬ k < s.size) (h : ∀ j, (hj : j < s.size) → j < k → 32 ≤ (s[j].toNat : Int) ∧ (s[j].toNat : Int) ≤ 126) : true = plainB s :=
  (decide_eq_true (fun j hj => h j hj (by omega))).symm
theorem plainB_not {s : ByteArray} {k : Nat} (hk : k < s.size) (h : ¬ (32 ≤ (s[k].toNat : Int) ∧ (s[k].toNat : Int) ≤ 126)) : false = plainB s :=
  (decide_eq_false (fun g => h (g k hk))).symm

/-- How many letters fit: each row of letters up to n does, and the next, where there is one, does not. -/
def FitsAt (fn fu fb : Int) (s : ByteArray) (room : Int) (n : Nat) : Prop :=
  n ≤ s.size ∧ (∀ j, j < n → advK fn fu fb s (j + 1) ≤ room) ∧ (n < s.size → room < advK fn fu fb s (n + 1))
theorem FitsAt.one {fn fu fb : Int} {s : ByteArray} {room : Int} {n m : Nat} (h : FitsAt fn fu fb s room n) (k : FitsAt fn fu fb s room m) : n = m := by
  obtain ⟨h1, h2, h3⟩ := h
  obtain ⟨k1, k2, k3⟩ := k
  by_cases a : n < m
  · have := k2 n a; have := h3 (by omega); omega
  · by_cases b : m < n
    · have := h2 m b; have := k3 (by omega); omega
    · omega
end Go.Proofs.YtddnphgpdnedbaaDoor
