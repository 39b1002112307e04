/-
  The ghost of the reading, as plain lemmas: pieces, cuts, names.
-/
import Derived.Test.YtdgagjnkbmckoaaGreatDoorRdR
import Derived.Test.YtdgagjnkbmckoaaGreatDoorRound2
import Derived.Test.YtdgagjnkbmckoaaGreatDoorTxtK
namespace Go.Proofs.YtdgagjnkbmckoaaGreatDoor
open Go.ChangeShapes Go.WideShapes Go.ChangeAt Go.RowKit
set_option linter.unusedVariables false

theorem rest_same {X : St} {k : Nat} (hk : k < 18) (h : sameB X k = true) : restT X k = restT X (k + 1) := by
  unfold restT
  rw [show 18 - k = (18 - (k + 1)) + 1 by omega, restN, if_pos h]
theorem rest_diff {X : St} {k : Nat} (hk : k < 18) (h : sameB X k = false) : restT X k = pieceT X k ++ restT X (k + 1) := by
  unfold restT
  rw [show 18 - k = (18 - (k + 1)) + 1 by omega, restN, if_neg (by simp [h])]
theorem rest_all (X : St) : ∀ (n k : Nat), textTo X k ++ restN X n k = textTo X (k + n)
  | 0, k => by
    rw [restN, Nat.add_zero]
    apply ByteArray.ext
    simp
  | n + 1, k => by
    rw [restN, show k + (n + 1) = (k + 1) + n by omega, ← rest_all X n (k + 1)]
    cases h : sameB X k
    · rw [if_neg (by decide), textTo_next h, ByteArray.append_assoc]
    · rw [if_pos rfl, textTo_same h]
theorem rest_zero (X : St) : restT X 0 = textTo X 18 := by
  have h := rest_all X 18 0
  rw [Nat.zero_add] at h
  rw [← h]
  show _ = (⟨#[]⟩ : ByteArray) ++ _
  apply ByteArray.ext
  simp [restT]
theorem mix_all (X : St) : mixT X 18 = X := by
  obtain ⟨a, b, c, ⟨d1, d2, d3⟩, ⟨e1, e2, e3⟩, f, g, h, ⟨i1, i2, i3⟩, j, ⟨k1, k2, k3⟩, l, m, n, o, p, q, r⟩ := X
  rfl
theorem mix_plain (X : St) {k : Nat} (hk : k < 18) : setT (mixT X k) k (getN plainS k) (getZ plainS k) = mixT X k := by
  obtain ⟨a, b, c, ⟨d1, d2, d3⟩, ⟨e1, e2, e3⟩, f, g, h, ⟨i1, i2, i3⟩, j, ⟨k1, k2, k3⟩, l, m, n, o, p, q, r⟩ := X
  rcases lt18 hk with rfl | rfl | rfl | rfl | rfl | rfl | rfl | rfl | rfl | rfl | rfl | rfl | rfl | rfl | rfl | rfl | rfl | rfl <;> kernel_rfl
theorem mix_same {X : St} {k : Nat} (hk : k < 18) (h : sameB X k = true) : mixT X (k + 1) = mixT X k := by
  rw [sameB_eq X hk, Bool.and_eq_true] at h
  have h1 := of_decide_eq_true h.1
  have h2 := of_decide_eq_true h.2
  have h3 : getZ X k = getZ plainS k := by
    cases hX : getZ X k
    cases hP : getZ plainS k
    rw [hX, hP] at h2
    obtain ⟨q1, q2, q3⟩ := h2
    simp only at q1 q2 q3
    rw [q1, q2, q3]
  rw [mixT, h1, h3]
  exact mix_plain X hk

/-! ### A name with its colon at the front -/
theorem pre_app (u v : ByteArray) : preB (u ++ v) u = true ∧ preR (u ++ v) u = v := by
  have e : preB (u ++ v) u = true := by
    unfold preB
    rw [front, ByteArray.size_append]
    simp
  exact ⟨e, by unfold preR; rw [e, if_pos rfl]; exact rear u v⟩
theorem pre_empty (k : Nat) : preB ⟨#[]⟩ (nmC k) = false := by
  unfold preB
  have : ¬ (nmC k).size ≤ (⟨#[]⟩ : ByteArray).size := by
    unfold nmC
    rw [ByteArray.size_append]
    show ¬ _ + 1 ≤ 0
    omega
  simp [this]
theorem names_part : ∀ k, k < 18 → ∀ j, j < 18 → k ≠ j → ∃ p, p < (nmC k).data.toList.length ∧ p < (nmC j).data.toList.length ∧ (nmC k).data.toList[p]? ≠ (nmC j).data.toList[p]? := by
  decide +kernel
theorem pre_other {k j : Nat} (hk : k < 18) (hj : j < 18) (hne : k ≠ j) (r : ByteArray) : preB (nmC j ++ r) (nmC k) = false := by
  obtain ⟨p, p1, p2, p3⟩ := names_part k hk j hj hne
  cases h : preB (nmC j ++ r) (nmC k)
  · rfl
  · unfold preB at h
    rw [Bool.and_eq_true] at h
    have h2 := beq_iff_eq.1 h.2
    rw [ByteArray.toList_eq, ByteArray.toList_eq] at h2
    have e : ((nmC j ++ r).extract 0 (nmC k).size).data.toList = ((nmC j).data.toList ++ r.data.toList).take (nmC k).size := by simp [List.take_append]
    rw [e] at h2
    have h3 := congrArg (·[p]?) h2
    simp only [List.getElem?_take] at h3
    have p1' : p < (nmC k).size := by simpa using p1
    rw [if_pos p1', List.getElem?_append_left p2] at h3
    exact absurd h3.symm p3
theorem rest_front (X : St) : ∀ (n k : Nat), k + n = 18 → restN X n k = ⟨#[]⟩ ∨ ∃ j r, k ≤ j ∧ j < 18 ∧ restN X n k = nmC j ++ r
  | 0, k, _ => .inl rfl
  | n + 1, k, h => by
    rw [restN]
    split
    · rcases rest_front X n (k + 1) (by omega) with e | ⟨j, r, h1, h2, e⟩
      · exact .inl e
      · exact .inr ⟨j, r, by omega, h2, e⟩
    · refine .inr ⟨k, tokT X k ++ ⟨#[59]⟩ ++ restN X n (k + 1), Nat.le_refl _, by omega, ?_⟩
      unfold pieceT nmC
      simp only [ByteArray.append_assoc]
theorem front_not {X : St} {k : Nat} (hk : k < 18) (h : sameB X k = true) : frB k (restT X k) = false := by
  rw [rest_same hk h]
  unfold frB
  have e : preB (restT X (k + 1)) (nmC k) = false := by
    rcases rest_front X (18 - (k + 1)) (k + 1) (by omega) with e | ⟨j, r, h1, h2, e⟩
    · unfold restT
      rw [e]
      exact pre_empty k
    · unfold restT
      rw [e]
      exact pre_other hk h2 (by omega) r
  rw [e, Bool.false_and]

/-! ### Cut at a sign -/
theorem idx_sign (c : UInt8) : ∀ (l r : List UInt8), (∀ x ∈ l, x ≠ c) → Lib.indexByte (l ++ c :: r) c = l.length
  | [], r, _ => by simp [Lib.indexByte]
  | d :: l, r, h => by
    have hne : (d == c) = false := by simpa using h d (by simp)
    have ih := idx_sign c l r (fun x hx => h x (by simp [hx]))
    rw [List.cons_append, Lib.indexByte, hne, ih]
    have : (((l.length : Nat) : Int) == -1) = false := by simp
    rw [this]
    simp
theorem s_cut_at (u v : ByteArray) (h : ∀ x ∈ u.data.toList, x ≠ 59) : s_dotB (u ++ (⟨#[59]⟩ ++ v)) = true ∧ s_wholeOf (u ++ (⟨#[59]⟩ ++ v)) = u ∧ s_partOf (u ++ (⟨#[59]⟩ ++ v)) = v := by
  have hx : Lib.indexByte (u ++ (⟨#[59]⟩ ++ v)).data.toList 59 = (u.size : Nat) := by
    have e : (u ++ (⟨#[59]⟩ ++ v)).data.toList = u.data.toList ++ 59 :: v.data.toList := by simp
    rw [e, idx_sign 59 _ _ h]
    simp
  obtain ⟨h1, h2, h3⟩ := s_cutOf_hit hx
  refine ⟨h1, h2.trans (front _ _), h3.trans ?_⟩
  have e : u ++ (⟨#[59]⟩ ++ v) = (u ++ ⟨#[59]⟩) ++ v := by rw [ByteArray.append_assoc]
  have es : u.size + 1 = (u ++ ⟨#[59]⟩).size := by rw [ByteArray.size_append]; rfl
  rw [e, es]
  exact rear _ _
theorem front_yes {X : St} {k : Nat} (hk : k < 18) (h : sameB X k = false) (hn : ∀ x ∈ (tokT X k).data.toList, x ≠ 59) : frB k (restT X k) = true ∧ frV k (restT X k) = tokT X k ∧ frR k (restT X k) = restT X (k + 1) := by
  have e : restT X k = nmC k ++ (tokT X k ++ (⟨#[59]⟩ ++ restT X (k + 1))) := by
    rw [rest_diff hk h]
    unfold pieceT nmC
    simp only [ByteArray.append_assoc]
  obtain ⟨p1, p2⟩ := pre_app (nmC k) (tokT X k ++ (⟨#[59]⟩ ++ restT X (k + 1)))
  obtain ⟨c1, c2, c3⟩ := s_cut_at (tokT X k) (restT X (k + 1)) hn
  unfold frB frV frR
  rw [e, p1, p2, c1, c2, c3]
  exact ⟨rfl, rfl, rfl⟩
end Go.Proofs.YtdgagjnkbmckoaaGreatDoor
