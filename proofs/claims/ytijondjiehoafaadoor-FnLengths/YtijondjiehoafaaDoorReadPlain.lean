/-
  The plain numbers behind ReadPixels: digits, their value, and bounds of it.
-/
namespace Go.Proofs.YtijondjiehoafaaDoor
def digB (t : ByteArray) : Bool := t.data.toList.all (fun c => decide (48 ≤ c.toNat ∧ c.toNat ≤ 57))
def val (l : List UInt8) : Int := l.foldl (fun n c => 10 * n + ((c.toNat : Int) - 48)) 0
theorem val_snoc (l : List UInt8) (c : UInt8) : val (l ++ [c]) = 10 * val l + ((c.toNat : Int) - 48) := by simp [val]
theorem take_byte (s : ByteArray) (k : Nat) (h : k < s.size) : s.data.toList.take (k + 1) = s.data.toList.take k ++ [s[k]] := by
  rw [List.take_succ_eq_append_getElem (by simpa using h)]; rfl
theorem val_next (s : ByteArray) (k : Nat) (h : k < s.size) : val (s.data.toList.take (k + 1)) = 10 * val (s.data.toList.take k) + ((s[k].toNat : Int) - 48) := by
  rw [take_byte s k h, val_snoc]
theorem all_take (s : ByteArray) : s.data.toList.take s.size = s.data.toList := List.take_of_length_le (by simp)
theorem digB_at {s : ByteArray} (h : digB s = true) (k : Nat) (hk : k < s.size) : 48 ≤ s[k].toNat ∧ s[k].toNat ≤ 57 := by
  unfold digB at h
  rw [List.all_eq_true] at h
  have := h s[k] (by show s.data[k] ∈ s.data.toList; simp)
  simpa using this
theorem digB_bad {s : ByteArray} (k : Nat) (hk : k < s.size) (h : ¬ (48 ≤ s[k].toNat ∧ s[k].toNat ≤ 57)) : digB s = false := by
  cases e : digB s with
  | false => rfl
  | true => exact absurd (digB_at e k hk) h
/-- The first k bytes are digits. -/
def DigTo (s : ByteArray) (k : Nat) : Prop := ∀ j (h : j < s.size), j < k → 48 ≤ s[j].toNat ∧ s[j].toNat ≤ 57
theorem digTo_zero (s : ByteArray) : DigTo s 0 := fun j _ h => absurd h (by omega)
theorem digTo_next {s : ByteArray} {k : Nat} (h : DigTo s k) (hk : k < s.size) (d : 48 ≤ s[k].toNat ∧ s[k].toNat ≤ 57) : DigTo s (k + 1) := fun j hj hjk => by
  by_cases e : j = k
  · subst e; exact d
  · exact h j hj (by omega)
theorem digB_all {s : ByteArray} (h : DigTo s s.size) : digB s = true := by
  unfold digB
  rw [List.all_eq_true]
  intro c hc
  obtain ⟨j, hj, rfl⟩ := List.getElem_of_mem hc
  have hj' : j < s.size := by simpa using hj
  have hd := h j hj' hj'
  exact decide_eq_true hd
theorem val_pow (s : ByteArray) (h : digB s = true) : ∀ k, k ≤ s.size → 0 ≤ val (s.data.toList.take k) ∧ val (s.data.toList.take k) + 1 ≤ (10 : Int) ^ k := by
  intro k
  induction k with
  | zero => intro _; simp [val]
  | succ k ih =>
    intro hk
    have h1 := ih (by omega)
    have h2 := digB_at h k (by omega)
    rw [val_next s k (by omega), Int.pow_succ]
    omega
theorem val_bd (s : ByteArray) (h : digB s = true) (k : Nat) (hk : k ≤ s.size) (h5 : k ≤ 5) : 0 ≤ val (s.data.toList.take k) ∧ val (s.data.toList.take k) ≤ 99999 := by
  have h1 := val_pow s h k hk
  have : k = 0 ∨ k = 1 ∨ k = 2 ∨ k = 3 ∨ k = 4 ∨ k = 5 := by omega
  rcases this with rfl | rfl | rfl | rfl | rfl | rfl <;> simp at h1 ⊢ <;> omega
theorem val_bd2 (s : ByteArray) (h : digB s = true) (h2 : s.size ≤ 2) : 0 ≤ val s.data.toList ∧ val s.data.toList ≤ 99 := by
  have h1 := val_pow s h s.size (Nat.le_refl _)
  rw [all_take] at h1
  have : s.size = 0 ∨ s.size = 1 ∨ s.size = 2 := by omega
  rcases this with e | e | e <;> rw [e] at h1 <;> simp at h1 <;> omega
theorem val_bd1 (s : ByteArray) (h : digB s = true) (h2 : s.size = 1) : 0 ≤ val s.data.toList ∧ val s.data.toList ≤ 9 := by
  have h1 := val_pow s h s.size (Nat.le_refl _)
  rw [all_take, h2] at h1
  simp at h1
  omega
theorem val_bd5 (s : ByteArray) (h : digB s = true) (h5 : s.size ≤ 5) : 0 ≤ val s.data.toList ∧ val s.data.toList ≤ 99999 := by
  have := val_bd s h s.size (Nat.le_refl _) h5
  rwa [all_take] at this
end Go.Proofs.YtijondjiehoafaaDoor
