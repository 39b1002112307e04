/-
  The plain mathematics of a line's width: the line without its line break and its blanks at the end; lines between places; the greatest width.
-/
import Derived.Test.YtllkbokkhdomoabDoorRRForced
import Derived.Lib.TrimByte
import Derived.Lib.Strings
namespace Go.Proofs.YtllkbokkhdomoabDoorRR
open Go.ChangeShapes Go.WideShapes Go.ChangeAt Go.RowKit

/-- The last byte. -/
def endZ (y : ByteArray) : Nat := (y.data.toList.getD (y.size - 1) 0).toNat
/-- All but the last byte. -/
def cutOne (y : ByteArray) : ByteArray := y.extract 0 (y.size - 1)
theorem cutOne_size (y : ByteArray) : (cutOne y).size = y.size - 1 := by unfold cutOne; rw [ByteArray.size_extract]; omega
theorem cutOne_list (y : ByteArray) : (cutOne y).data.toList = y.data.toList.take (y.size - 1) := by
  unfold cutOne
  rw [ByteArray.data_extract, Array.toList_extract]
  simp
/-- Blanks at the end cut off. -/
def cutB : Nat → ByteArray → ByteArray
  | 0, y => y
  | f + 1, y => if 0 < y.size ∧ endZ y = 32 then cutB f (cutOne y) else y
theorem cutB_go {y : ByteArray} (h0 : 0 < y.size) (h : endZ y = 32) : cutB y.size y = cutB (cutOne y).size (cutOne y) := by
  rw [cutOne_size]
  obtain ⟨f, hf⟩ : ∃ f, y.size = f + 1 := ⟨y.size - 1, by omega⟩
  rw [hf]
  simp only [cutB, Nat.add_sub_cancel]
  rw [if_pos ⟨h0, h⟩]
theorem cutB_stop {y : ByteArray} (h : ¬ (0 < y.size ∧ endZ y = 32)) : cutB y.size y = y := by
  cases hf : y.size with
  | zero => rfl
  | succ f => simp only [cutB]; rw [if_neg (by rw [hf] at h; rw [hf]; exact h)]
/-- The line as it is measured. -/
def bareS (x : ByteArray) : ByteArray := if 0 < x.size ∧ endZ x = 10 then cutB (cutOne x).size (cutOne x) else cutB x.size x
theorem list_end (y : ByteArray) (h : 0 < y.size) : ∃ l c, y.data.toList = l ++ [c] ∧ endZ y = c.toNat ∧ (cutOne y).data.toList = l := by
  have hs : y.data.toList.length = y.size := by simp
  have hne : y.data.toList ≠ [] := fun e => by rw [e] at hs; simp at hs; omega
  refine ⟨y.data.toList.dropLast, y.data.toList.getLast hne, (List.dropLast_concat_getLast hne).symm, ?_, ?_⟩
  · unfold endZ
    rw [List.getD_eq_getElem?_getD, List.getElem?_eq_getElem (by omega)]
    simp only [Option.getD_some]
    rw [List.getLast_eq_getElem]
    simp only [hs]
  · rw [cutOne_list, List.dropLast_eq_take, hs]
theorem trimRight_snoc (l : List UInt8) (c d : UInt8) : Lib.trimRightB (l ++ [c]) d = if c = d then Lib.trimRightB l d else l ++ [c] := by
  unfold Lib.trimRightB
  rw [List.reverse_append]
  simp only [List.reverse_cons, List.reverse_nil, List.nil_append, List.singleton_append, List.dropWhile_cons]
  by_cases h : c = d
  · simp [h]
  · simp [h]
theorem u8_is (c : UInt8) (n : UInt8) : c.toNat = n.toNat ↔ c = n := UInt8.toNat_inj
theorem cutB_list : ∀ (f : Nat) (y : ByteArray), y.size = f → (cutB f y).data.toList = Lib.trimRightB y.data.toList 32 := by
  intro f
  induction f with
  | zero =>
    intro y h
    have : y.data.toList = [] := List.eq_nil_of_length_eq_zero (by simpa using h)
    rw [cutB, this]; rfl
  | succ f ih =>
    intro y h
    obtain ⟨l, c, h1, h2, h3⟩ := list_end y (by omega)
    have e32 : endZ y = 32 ↔ c = 32 := by rw [h2]; exact u8_is c 32
    simp only [cutB]
    rw [h1, trimRight_snoc]
    by_cases g : c = 32
    · rw [if_pos ⟨by omega, e32.2 g⟩, if_pos g, ih (cutOne y) (by rw [cutOne_size]; omega), h3]
    · rw [if_neg (fun x => g (e32.1 x.2)), if_neg g, h1]
theorem trimSuffix_ten (y : ByteArray) : Lib.trimSuffix y.data.toList [10] = if 0 < y.size ∧ endZ y = 10 then (cutOne y).data.toList else y.data.toList := by
  by_cases h : 0 < y.size
  · obtain ⟨l, c, h1, h2, h3⟩ := list_end y h
    have e10 : endZ y = 10 ↔ c = 10 := by rw [h2]; exact u8_is c 10
    unfold Lib.trimSuffix Lib.hasSuffix
    rw [h1, h3]
    by_cases g : c = 10
    · have : ([10] : List UInt8).isSuffixOf (l ++ [c]) = true := by rw [List.isSuffixOf_iff_suffix]; exact ⟨l, by rw [g]⟩
      rw [if_pos this, if_pos ⟨h, e10.2 g⟩]
      simp
    · have : ¬ ([10] : List UInt8).isSuffixOf (l ++ [c]) = true := fun k => by
        rw [List.isSuffixOf_iff_suffix] at k
        obtain ⟨t, ht⟩ := k
        have := (List.append_inj' ht rfl).2
        simp at this
        exact g this.symm
      rw [if_neg this, if_neg (fun x => g (e10.1 x.2))]
  · have hs : y.data.toList.length = y.size := by simp
    have : y.data.toList = [] := List.eq_nil_of_length_eq_zero (by omega)
    rw [if_neg (fun x => h x.1), this]; rfl
theorem bare_list (x : ByteArray) : Lib.trimRightB (Lib.trimSuffix x.data.toList [10]) 32 = (bareS x).data.toList := by
  rw [trimSuffix_ten]
  unfold bareS
  by_cases h : 0 < x.size ∧ endZ x = 10
  · rw [if_pos h, if_pos h, cutB_list _ _ rfl]
  · rw [if_neg h, if_neg h, cutB_list _ _ rfl]
theorem bare_eq (x : ByteArray) : (⟨(Lib.trimRightB (Lib.trimSuffix x.data.toList [10]) 32).toArray⟩ : ByteArray) = bareS x := by
  rw [bare_list]
theorem extract_two (x : ByteArray) (a b : Nat) (h : b ≤ a) : (x.extract 0 a).extract 0 b = x.extract 0 b := by
  apply ByteArray.ext
  simp only [ByteArray.data_extract]
  rw [Array.extract_extract]
  simp
  congr 1
  omega
theorem cutB_pre : ∀ (f : Nat) (y : ByteArray), ∃ m, m ≤ y.size ∧ cutB f y = y.extract 0 m := by
  intro f
  induction f with
  | zero => intro y; exact ⟨y.size, Nat.le_refl _, by rw [cutB, ByteArray.extract_zero_size]⟩
  | succ f ih =>
    intro y
    simp only [cutB]
    split
    · obtain ⟨m, h1, h2⟩ := ih (cutOne y)
      rw [cutOne_size] at h1
      exact ⟨m, by omega, by rw [h2]; unfold cutOne; exact extract_two y _ m h1⟩
    · exact ⟨y.size, Nat.le_refl _, by rw [ByteArray.extract_zero_size]⟩
theorem bare_pre (x : ByteArray) : ∃ m, m ≤ x.size ∧ (0 < x.size → endZ x = 10 → m ≤ x.size - 1) ∧ bareS x = x.extract 0 m := by
  unfold bareS
  split
  · obtain ⟨m, h1, h2⟩ := cutB_pre (cutOne x).size (cutOne x)
    rw [cutOne_size] at h1
    exact ⟨m, by omega, fun _ _ => h1, by rw [h2]; unfold cutOne; exact extract_two x _ m h1⟩
  · rename_i h
    obtain ⟨m, h1, h2⟩ := cutB_pre x.size x
    exact ⟨m, h1, fun a b => absurd ⟨a, b⟩ h, h2⟩
theorem bare_size (x : ByteArray) : (bareS x).size ≤ x.size := by
  obtain ⟨m, h1, _, h3⟩ := bare_pre x
  rw [h3, ByteArray.size_extract]; omega

/-- The place ahead of line j, and the j-th line. -/
def prevE (E : List Nat) (j : Nat) : Nat := (0 :: E).getD j 0
def lineOf (s : ByteArray) (E : List Nat) (j : Nat) : ByteArray := s.extract (prevE E j) (E.getD j 0)
theorem prevE_next (E : List Nat) (j : Nat) : prevE E (j + 1) = E.getD j 0 := rfl
theorem lineOf_size (s : ByteArray) (E : List Nat) (j : Nat) : (lineOf s E j).size ≤ s.size := by
  unfold lineOf; rw [ByteArray.size_extract]; omega
/-- The greatest of some widths, of the first k lines. -/
def widestK (W : ByteArray → Int) (s : ByteArray) (E : List Nat) : Nat → Int
  | 0 => 0
  | k + 1 => max (widestK W s E k) (W (lineOf s E k))
theorem widestK_same (W V : ByteArray → Int) (s : ByteArray) (E : List Nat) (k : Nat) (h : ∀ j, j < k → W (lineOf s E j) = V (lineOf s E j)) : widestK W s E k = widestK V s E k := by
  induction k with
  | zero => rfl
  | succ k ih => rw [widestK, widestK, ih (fun j hj => h j (by omega)), h k (by omega)]
theorem widestK_bd (W : ByteArray → Int) (s : ByteArray) (E : List Nat) (k : Nat) (h : ∀ x : ByteArray, x.size ≤ s.size → 0 ≤ W x ∧ W x ≤ 2560000) : 0 ≤ widestK W s E k ∧ widestK W s E k ≤ 2560000 := by
  induction k with
  | zero => simp [widestK]
  | succ k ih =>
    have := h (lineOf s E k) (lineOf_size s E k)
    rw [widestK]
    omega
/-- Places that rise up to the end. -/
def EndsOk (n : Nat) (E : List Nat) : Prop := ∀ j, j < E.length → prevE E j ≤ E.getD j 0 ∧ E.getD j 0 ≤ n
/-- The places 1 .. k at which p holds, as numbers. -/
def placesN (p : Nat → Bool) : Nat → List Nat
  | 0 => []
  | k + 1 => if p (k + 1) = true then placesN p k ++ [k + 1] else placesN p k
theorem placesN_int (p : Nat → Bool) (k : Nat) : placesL p k = (placesN p k).map (fun n : Nat => (n : Int)) := by
  induction k with
  | zero => rfl
  | succ k ih =>
    unfold placesL placesN
    by_cases h : p (k + 1) = true
    · rw [if_pos h, if_pos h, ih]; simp
    · rw [if_neg h, if_neg h, ih]
theorem placesN_len (p : Nat → Bool) (k : Nat) : (placesN p k).length ≤ k := by
  have h := placesL_len p k
  rw [placesN_int, List.length_map] at h
  exact h
theorem getD_snoc_lo (E : List Nat) (e j : Nat) (h : j < E.length) : (E ++ [e]).getD j 0 = E.getD j 0 := by
  rw [List.getD_eq_getElem?_getD, List.getD_eq_getElem?_getD, List.getElem?_append_left h]
theorem getD_snoc_hi (E : List Nat) (e : Nat) : (E ++ [e]).getD E.length 0 = e := by
  rw [List.getD_eq_getElem?_getD, List.getElem?_append_right (Nat.le_refl _)]; simp
theorem prevE_lo (E : List Nat) (e j : Nat) (h : j ≤ E.length) : prevE (E ++ [e]) j = prevE E j := by
  cases j with
  | zero => rfl
  | succ j => rw [prevE_next, prevE_next]; exact getD_snoc_lo E e j h
/-- Between two places of a rising row no place at which p holds is passed by. -/
def Between (p : Nat → Bool) (E : List Nat) (k : Nat) : Prop :=
  (∀ j, j < E.length → prevE E j < E.getD j 0 ∧ E.getD j 0 ≤ k ∧ ∀ i, prevE E j < i → i < E.getD j 0 → p i = false) ∧ (∀ i, prevE E E.length < i → i ≤ k → p i = false) ∧ prevE E E.length ≤ k
theorem placesN_between (p : Nat → Bool) (k : Nat) : Between p (placesN p k) k := by
  induction k with
  | zero => exact ⟨fun j h => absurd h (by simp [placesN]), fun i h1 h2 => absurd h1 (by simp [placesN, prevE]; omega), by simp [placesN, prevE]⟩
  | succ k ih =>
    obtain ⟨h1, h2, h3⟩ := ih
    unfold placesN
    by_cases h : p (k + 1) = true
    · rw [if_pos h]
      generalize placesN p k = E at h1 h2 h3
      refine ⟨fun j hj => ?_, fun i g1 g2 => ?_, ?_⟩
      · rw [prevE_lo E (k + 1) j (by simp at hj; omega)]
        by_cases e : j = E.length
        · subst e
          rw [getD_snoc_hi]
          exact ⟨by omega, by omega, fun i a b => h2 i a (by omega)⟩
        · have hj' : j < E.length := by simp at hj; omega
          rw [getD_snoc_lo E (k + 1) j hj']
          obtain ⟨a, b, c⟩ := h1 j hj'
          exact ⟨a, by omega, c⟩
      · have e : prevE (E ++ [k + 1]) (E ++ [k + 1]).length = k + 1 := by
          rw [List.length_append, List.length_singleton, prevE_next, getD_snoc_hi]
        rw [e] at g1
        omega
      · have e : prevE (E ++ [k + 1]) (E ++ [k + 1]).length = k + 1 := by
          rw [List.length_append, List.length_singleton, prevE_next, getD_snoc_hi]
        rw [e]
        exact Nat.le_refl _
    · rw [if_neg h]
      refine ⟨fun j hj => ?_, fun i g1 g2 => ?_, by omega⟩
      · obtain ⟨a, b, c⟩ := h1 j hj
        exact ⟨a, by omega, c⟩
      · by_cases e : i = k + 1
        · subst e; simpa using h
        · exact h2 i g1 (by omega)
/-- A line whose line breaks stand at its end alone. -/
def lineOk (x : ByteArray) : Prop := ∀ j, (h : j < x.size) → (32 ≤ (x[j].toNat : Int) ∧ (x[j].toNat : Int) ≤ 126) ∨ ((x[j].toNat : Int) = 10 ∧ j + 1 = x.size)
theorem lineOk_plain {x : ByteArray} (h : lineOk x) : plainB (bareS x) = true := by
  obtain ⟨m, h1, h2, h3⟩ := bare_pre x
  rw [h3]
  have hs : (x.extract 0 m).size = m := by rw [ByteArray.size_extract]; omega
  refine decide_eq_true fun j hj => ?_
  have hj' : j < m := by omega
  have e : (x.extract 0 m)[j] = x[j] := by rw [ByteArray.getElem_extract]; congr 1; omega
  rw [e]
  rcases h j (by omega) with g | ⟨g, g'⟩
  · exact g
  · exfalso
    have : endZ x = 10 := by
      unfold endZ
      rw [at_list x (x.size - 1) (by omega)]
      have : x[x.size - 1] = x[j] := by congr 1; omega
      rw [this]; omega
    have := h2 (by omega) this
    omega
end Go.Proofs.YtllkbokkhdomoabDoorRR
