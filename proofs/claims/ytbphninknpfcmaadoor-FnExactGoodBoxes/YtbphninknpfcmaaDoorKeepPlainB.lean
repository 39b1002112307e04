/-
  The plain mathematics of what is kept of a text: tabs and line breaks made blanks, blanks joined with one held back (as the program has it), and the row that the model has behind so many bytes.
-/
import Derived.Test.YtbphninknpfcmaaDoorT3b
import Derived.Test.YtbphninknpfcmaaDoorStyB
namespace Go.Proofs.YtbphninknpfcmaaDoor
open Go.ChangeShapes Go.WideShapes Go.ChangeAt Go.RowKit

/-- A byte made a blank. -/
def blk (g : Nat) (c : UInt8) : UInt8 := if c.toNat = g then 32 else c
/-- What the model does in one pass. -/
def blkS (two : Bool) (c : UInt8) : UInt8 := if c.toNat = 9 ∨ (c.toNat = 10 ∧ two = true) then 32 else c
theorem blk_one : blkS false = blk 9 := by funext c; simp [blkS, blk]
theorem blk_two (l : List UInt8) : l.map (blkS true) = (l.map (blk 9)).map (blk 10) := by
  rw [List.map_map]
  congr 1
  funext c
  show blkS true c = blk 10 (blk 9 c)
  unfold blkS blk
  by_cases h : c.toNat = 9
  · simp [h]
  · by_cases h' : c.toNat = 10 <;> simp [h, h']
/-- A pass that has come to place k. -/
def mapTo (f : UInt8 → UInt8) (l : List UInt8) (k : Nat) : List UInt8 := (l.take k).map f ++ l.drop k
theorem mapTo_zero (f : UInt8 → UInt8) (l : List UInt8) : mapTo f l 0 = l := by simp [mapTo]
theorem mapTo_all (f : UInt8 → UInt8) (l : List UInt8) : mapTo f l l.length = l.map f := by simp [mapTo]
theorem mapTo_len (f : UInt8 → UInt8) (l : List UInt8) (k : Nat) : (mapTo f l k).length = l.length := by
  simp only [mapTo, List.length_append, List.length_map, List.length_take, List.length_drop]; omega
theorem mapTo_at (f : UInt8 → UInt8) (l : List UInt8) (k : Nat) (h : k < l.length) : (mapTo f l k).getD k 0 = l.getD k 0 := by
  simp only [mapTo, List.getD_eq_getElem?_getD]
  rw [List.getElem?_append_right (by simp; omega)]
  simp only [List.length_map, List.length_take, List.getElem?_drop]
  rw [show k + (k - min k l.length) = k by omega]
theorem mapTo_next (f : UInt8 → UInt8) (l : List UInt8) (k : Nat) (h : k < l.length) : mapTo f l (k + 1) = (mapTo f l k).set k (f (l.getD k 0)) := by
  have e : l.getD k 0 = l[k] := by simp [List.getD_eq_getElem?_getD, h]
  simp only [mapTo]
  rw [List.set_append_right _ _ (by simp; omega), List.take_succ_eq_append_getElem h, List.map_append, List.append_assoc, e]
  congr 1
  simp only [List.length_map, List.length_take]
  rw [show k - min k l.length = 0 by omega, List.drop_eq_getElem_cons h]
  rfl
theorem mapTo_same (f : UInt8 → UInt8) (l : List UInt8) (k : Nat) (h : k < l.length) (hf : f (l.getD k 0) = l.getD k 0) : mapTo f l (k + 1) = mapTo f l k := by
  rw [mapTo_next f l k h, hf]
  apply List.ext_getElem?
  intro j
  rw [List.getElem?_set]
  by_cases e : k = j
  · subst e
    have h1 := mapTo_at f l k h
    have h2 := mapTo_len f l k
    rw [List.getD_eq_getElem?_getD] at h1
    rw [if_pos rfl, if_pos (by omega), ← h1, List.getElem?_eq_getElem (by omega)]
    simp
  · rw [if_neg e]

/-- The last byte. -/
def lastU (l : List UInt8) : Nat := (l.getD (l.length - 1) 0).toNat
theorem lastU_snoc (l : List UInt8) (c : UInt8) : lastU (l ++ [c]) = c.toNat := by
  simp [lastU, List.getD_eq_getElem?_getD]
/-- Nothing stands ahead in this line. -/
def begins (l : List UInt8) : Bool := decide (l.length = 0 ∨ lastU l = 10)
/-- One byte more: what is kept, and whether a blank is held back. -/
def stepJ (st : List UInt8 × Bool) (c : UInt8) : List UInt8 × Bool :=
  if c.toNat = 32 then (st.1, true)
  else ((if st.2 = true ∧ c.toNat ≠ 10 ∧ begins st.1 = false then st.1 ++ [32] else st.1) ++ [c], false)
def joinK (l : List UInt8) (k : Nat) : List UInt8 × Bool := (l.take k).foldl stepJ ([], false)
theorem joinK_zero (l : List UInt8) : joinK l 0 = ([], false) := rfl
theorem joinK_next (l : List UInt8) (k : Nat) (h : k < l.length) : joinK l (k + 1) = stepJ (joinK l k) (l.getD k 0) := by
  unfold joinK
  rw [List.take_succ_eq_append_getElem h, List.foldl_append]
  simp [List.getD_eq_getElem?_getD, h]
theorem joinK_len (l : List UInt8) (k : Nat) (h : k ≤ l.length) : (joinK l k).1.length + (if (joinK l k).2 = true then 1 else 0) ≤ k := by
  induction k with
  | zero => simp [joinK_zero]
  | succ k ih =>
    have ih := ih (by omega)
    rw [joinK_next l k (by omega)]
    unfold stepJ
    split
    · simp only [if_pos]; split at ih <;> omega
    · split
      · rename_i h1; simp [h1.1] at ih ⊢; omega
      · simp; split at ih <;> omega
theorem joinK_le (l : List UInt8) (k : Nat) (h : k ≤ l.length) : (joinK l k).1.length ≤ k := by
  have := joinK_len l k h; split at this <;> omega
theorem joinK_last (l : List UInt8) (k : Nat) (h : k ≤ l.length) : (joinK l k).1.length = 0 ∨ lastU (joinK l k).1 ≠ 32 := by
  induction k with
  | zero => left; simp [joinK_zero]
  | succ k ih =>
    have ih := ih (by omega)
    rw [joinK_next l k (by omega)]
    unfold stepJ
    split
    · exact ih
    · rename_i hc
      right
      rw [lastU_snoc]
      exact hc

/-- Whether what comes first that is no blank is a letter of the same line. -/
def nextOk : List UInt8 → Bool
  | [] => false
  | c :: r => if c.toNat = 32 then nextOk r else decide (c.toNat ≠ 10)
theorem drop_cons (l : List UInt8) (k : Nat) (h : k < l.length) : l.drop k = l.getD k 0 :: l.drop (k + 1) := by
  rw [List.drop_eq_getElem_cons h]; simp [List.getD_eq_getElem?_getD, h]
theorem nextOk_blank (l : List UInt8) (k : Nat) (h : k < l.length) (hc : (l.getD k 0).toNat = 32) : nextOk (l.drop k) = nextOk (l.drop (k + 1)) := by
  rw [drop_cons l k h]; simp only [nextOk]; rw [if_pos hc]
theorem nextOk_other (l : List UInt8) (k : Nat) (h : k < l.length) (hc : (l.getD k 0).toNat ≠ 32) : nextOk (l.drop k) = decide ((l.getD k 0).toNat ≠ 10) := by
  rw [drop_cons l k h]; simp only [nextOk]; rw [if_neg hc]
theorem nextOk_far (l : List UInt8) (i : Nat) : ∀ d : Nat, i + d ≤ l.length → (∀ j, i ≤ j → j < i + d → (l.getD j 0).toNat = 32) → nextOk (l.drop i) = nextOk (l.drop (i + d)) := by
  intro d
  induction d with
  | zero => intro _ _; rfl
  | succ d ih =>
    intro h hb
    rw [ih (by omega) (fun j h1 h2 => hb j h1 (by omega)), nextOk_blank l (i + d) (by omega) (hb (i + d) (by omega) (by omega))]
    rfl
/-- The model's row behind k bytes. -/
def outK (l : List UInt8) (k : Nat) : List UInt8 :=
  if (joinK l k).2 = true ∧ nextOk (l.drop k) = true ∧ begins (joinK l k).1 = false then (joinK l k).1 ++ [32] else (joinK l k).1
theorem outK_zero (l : List UInt8) : outK l 0 = [] := by simp [outK, joinK_zero]
theorem outK_all (l : List UInt8) : outK l l.length = (joinK l l.length).1 := by simp [outK, nextOk]
theorem outK_le (l : List UInt8) (k : Nat) (h : k ≤ l.length) : (outK l k).length ≤ k := by
  have hl := joinK_len l k h
  unfold outK
  split
  · rename_i h1; rw [if_pos h1.1] at hl; simp; omega
  · split at hl <;> omega
theorem outK_other (l : List UInt8) (k : Nat) (h : k < l.length) (hc : (l.getD k 0).toNat ≠ 32) : outK l (k + 1) = outK l k ++ [l.getD k 0] := by
  unfold outK
  rw [joinK_next l k h, nextOk_other l k h hc]
  unfold stepJ
  rw [if_neg hc]
  simp
/-- The model passes a blank by. -/
def skipB (l : List UInt8) (m : Nat) (out : List UInt8) : Prop := m = l.length ∨ (l.getD m 0).toNat = 10 ∨ out.length = 0 ∨ lastU out = 32 ∨ lastU out = 10
theorem outK_blank (l : List UInt8) (k m : Nat) (h : k < l.length) (hc : (l.getD k 0).toNat = 32) (hm : k ≤ m) (hml : m ≤ l.length) (hb : ∀ j, k ≤ j → j < m → (l.getD j 0).toNat = 32) (hn : m < l.length → (l.getD m 0).toNat ≠ 32) :
    (skipB l m (outK l k) → outK l (k + 1) = outK l k) ∧ (¬ skipB l m (outK l k) → outK l (k + 1) = outK l k ++ [32]) := by
  have e1 : nextOk (l.drop k) = nextOk (l.drop m) := by
    have := nextOk_far l k (m - k) (by omega) (fun j h1 h2 => hb j h1 (by omega))
    rwa [show k + (m - k) = m by omega] at this
  have e2 := nextOk_blank l k h hc
  have e3 : nextOk (l.drop m) = true ↔ (m < l.length ∧ (l.getD m 0).toNat ≠ 10) := by
    by_cases g : m < l.length
    · rw [nextOk_other l m g (hn g)]; simp [g]
    · rw [List.drop_eq_nil_of_le (by omega)]; simp [nextOk, g]
  have e4 := joinK_last l k (by omega)
  have e5 : joinK l (k + 1) = ((joinK l k).1, true) := by rw [joinK_next l k h]; unfold stepJ; rw [if_pos hc]
  have e6 : outK l (k + 1) = if nextOk (l.drop k) = true ∧ begins (joinK l k).1 = false then (joinK l k).1 ++ [32] else (joinK l k).1 := by
    unfold outK; rw [e5, ← e2]; simp
  have e7 : nextOk (l.drop k) = true ↔ (m < l.length ∧ (l.getD m 0).toNat ≠ 10) := by rw [e1]; exact e3
  have e8 : begins (joinK l k).1 = false ↔ ¬ ((joinK l k).1.length = 0 ∨ lastU (joinK l k).1 = 10) := by simp [begins]
  rw [e6]
  by_cases a : nextOk (l.drop k) = true
  · by_cases b : begins (joinK l k).1 = false
    · rw [if_pos ⟨a, b⟩]
      by_cases c : (joinK l k).2 = true
      · have o : outK l k = (joinK l k).1 ++ [32] := by unfold outK; rw [if_pos ⟨c, a, b⟩]
        rw [o]
        refine ⟨fun _ => rfl, fun n => absurd ?_ n⟩
        exact .inr (.inr (.inr (.inl (lastU_snoc _ _))))
      · have o : outK l k = (joinK l k).1 := by unfold outK; rw [if_neg (fun x => c x.1)]
        rw [o]
        refine ⟨fun n => ?_, fun _ => rfl⟩
        have a' := e7.1 a
        have b' := e8.1 b
        exfalso
        rcases n with n | n | n | n | n
        · omega
        · exact a'.2 n
        · exact b' (.inl n)
        · rcases e4 with x | x
          · exact b' (.inl x)
          · exact x n
        · exact b' (.inr n)
    · rw [if_neg (fun x => b x.2)]
      have o : outK l k = (joinK l k).1 := by unfold outK; rw [if_neg (fun x => b x.2.2)]
      rw [o]
      refine ⟨fun _ => rfl, fun n => absurd ?_ n⟩
      have b' : (joinK l k).1.length = 0 ∨ lastU (joinK l k).1 = 10 := by
        apply Classical.byContradiction
        intro x
        exact b (e8.2 x)
      rcases b' with x | x
      · exact .inr (.inr (.inl x))
      · exact .inr (.inr (.inr (.inr x)))
  · rw [if_neg (fun x => a x.1)]
    have o : outK l k = (joinK l k).1 := by unfold outK; rw [if_neg (fun x => a x.2.1)]
    rw [o]
    refine ⟨fun _ => rfl, fun n => absurd ?_ n⟩
    by_cases g : m < l.length
    · right; left
      apply Classical.byContradiction
      intro x
      exact a (e7.2 ⟨g, x⟩)
    · left; omega

/-- What is kept of a text's bytes. -/
def keepL (white : Int) (l : List UInt8) : List UInt8 :=
  if white = 3 ∨ white = 4 then l.map (blkS (decide (white ≤ 2)))
  else (joinK (l.map (blkS (decide (white ≤ 2)))) l.length).1
def keepN (white : Int) (s : ByteArray) : ByteArray := if inB 1 5 white = true ∧ okB true s = true then ⟨(keepL white s.data.toList).toArray⟩ else ⟨#[]⟩
def keepB (white : Int) (s : ByteArray) : Bool := inB 1 5 white && okB true s
theorem isWhite_any (n : Int) (w : World) : Calls Tryd.prog 87 #[.int .i64 n] w fun e w' => e = .returned (.bool (inB 1 5 n)) ∧ w' = w := by
  by_cases h1 : 1 ≤ n <;> by_cases h2 : n ≤ 5 <;>
  · go_enter Tryd.func87, Tryd.ntmps87
    go_wp2
    go_ret
    exact ⟨ret_bool (by simp [inB, h1, h2]), rfl⟩
end Go.Proofs.YtbphninknpfcmaaDoor
