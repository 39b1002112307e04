/-
  The ghost of the reading: its steps, for the program.
-/
import Derived.Test.YtdgagjnkbmckoaaGreatDoorGhB
namespace Go.Proofs.YtdgagjnkbmckoaaGreatDoor
open Go.ChangeShapes Go.WideShapes Go.ChangeAt Go.RowKit
set_option linter.unusedVariables false

theorem okTo_at {X : St} (h : okTo X 18 = true) {k : Nat} (hk : k < 18) : (sameB X k || tokB X k) = true := by
  unfold okTo at h
  rw [List.all_eq_true] at h
  exact h k (List.mem_range.2 hk)
theorem word_low (X : St) {k : Nat} (hk : k < 18) (hs : styleB X = true) (hw : isW k = true) : (tokT X k).size ≠ 0 := by
  have h := hs
  unfold styleB gA gB gC gD gE at h
  simp only [Bool.and_eq_true] at h
  have r_sh := inB_yes h.1.1.1.1.1.1.1.1
  have r_fl := inB_yes h.1.1.1.1.1.1.1.2
  have r_cl := inB_yes h.1.1.1.1.1.1.2
  have r_wh := inB_yes h.1.1.1.1.1.2
  have r_al := inB_yes h.1.1.1.1.2
  clear h hs
  rcases lt18 hk with rfl | rfl | rfl | rfl | rfl | rfl | rfl | rfl | rfl | rfl | rfl | rfl | rfl | rfl | rfl | rfl | rfl | rfl
  case inl =>
    have e : X.sh = 1 ∨ X.sh = 2 ∨ X.sh = 3 := by omega
    rcases e with e | e | e <;> simp [tokT, e] <;> decide
  case inr.inl =>
    have e : X.fl = 0 ∨ X.fl = 1 ∨ X.fl = 2 := by omega
    rcases e with e | e | e <;> simp [tokT, e] <;> decide
  case inr.inr.inl =>
    have e : X.cl = 0 ∨ X.cl = 1 ∨ X.cl = 2 ∨ X.cl = 3 := by omega
    rcases e with e | e | e | e <;> simp [tokT, e] <;> decide
  case inr.inr.inr.inr.inr.inr.inr.inr.inr.inr.inr.inr.inr.inl =>
    have e : X.wh = 1 ∨ X.wh = 2 ∨ X.wh = 3 ∨ X.wh = 4 ∨ X.wh = 5 := by omega
    rcases e with e | e | e | e | e <;> simp [tokT, e] <;> decide
  case inr.inr.inr.inr.inr.inr.inr.inr.inr.inr.inr.inr.inr.inr.inl =>
    have e : X.al = 1 ∨ X.al = 2 ∨ X.al = 3 := by omega
    rcases e with e | e | e <;> simp [tokT, e] <;> decide
  all_goals exact absurd hw (by decide)
theorem tokB_plain (X : St) {k : Nat} (hk : k < 18) (h : isW k = false) : tokB X k = toldB (getZ X k).a (getZ X k).p (getZ X k).n := by
  rcases lt18 hk with rfl | rfl | rfl | rfl | rfl | rfl | rfl | rfl | rfl | rfl | rfl | rfl | rfl | rfl | rfl | rfl | rfl | rfl <;> first | rfl | (exact absurd h (by decide))
theorem sz_good (X : St) {k : Nat} (hk : k < 18) (hs : styleB X = true) (hz : isZ k = true) : szB (getZ X k).a (getZ X k).p (getZ X k).n = true := by
  have h := hs
  unfold styleB gB at h
  simp only [Bool.and_eq_true] at h
  have z1 := h.1.1.1.2.1.1.1
  have z2 := h.1.1.1.2.1.1.2
  have z3 := h.1.1.1.2.1.2
  have z4 := h.1.1.1.2.2
  clear h hs
  rcases lt18 hk with rfl | rfl | rfl | rfl | rfl | rfl | rfl | rfl | rfl | rfl | rfl | rfl | rfl | rfl | rfl | rfl | rfl | rfl <;> first | exact z1 | exact z2 | exact z3 | exact z4 | (exact absurd hz (by decide))
theorem len_flat (X : St) {k : Nat} (hk : k < 18) (hw : isW k = false) (hz : isZ k = false) : getZ X k = ⟨false, false, (getZ X k).n⟩ := by
  rcases lt18 hk with rfl | rfl | rfl | rfl | rfl | rfl | rfl | rfl | rfl | rfl | rfl | rfl | rfl | rfl | rfl | rfl | rfl | rfl <;> first | rfl | (exact absurd hw (by decide)) | (exact absurd hz (by decide))
theorem getN_flat (X : St) {k : Nat} (hk : k < 18) (hw : isW k = false) : getN X k = 0 := by
  rcases lt18 hk with rfl | rfl | rfl | rfl | rfl | rfl | rfl | rfl | rfl | rfl | rfl | rfl | rfl | rfl | rfl | rfl | rfl | rfl <;> first | rfl | (exact absurd hw (by decide))
theorem getZ_word (X : St) {k : Nat} (hk : k < 18) (hw : isW k = true) : getZ X k = ⟨false, false, 0⟩ := by
  rcases lt18 hk with rfl | rfl | rfl | rfl | rfl | rfl | rfl | rfl | rfl | rfl | rfl | rfl | rfl | rfl | rfl | rfl | rfl | rfl <;> first | rfl | (exact absurd hw (by decide))
/-- A value that is told is read as what it was, and has no colon and no semicolon. -/
theorem tok_reads {X : St} (hX : txtB X = true) {k : Nat} (hk : k < 18) (h : sameB X k = false) : rdOk k (tokT X k) = true ∧ rdN k (tokT X k) = getN X k ∧ rdZ k (tokT X k) = getZ X k ∧ plainT (tokT X k) = true := by
  unfold txtB at hX
  rw [Bool.and_eq_true] at hX
  obtain ⟨v1, v2⟩ := isVW hk
  have htk : tokB X k = true := by
    have := okTo_at hX.2 hk
    rw [h, Bool.false_or] at this
    exact this
  cases hw : isW k
  · rw [hw] at v1
    have et := tokT_plain X hk hw
    rw [tokB_plain X hk hw] at htk
    unfold rdOk rdN rdZ
    rw [v1, et, getN_flat X hk hw]
    cases hz : isZ k
    · have ez := len_flat X hk hw hz
      rw [ez] at htk ⊢
      have hp : pixB (getZ X k).n = true := htk
      obtain ⟨r1, r2⟩ := comes_back _ hp
      have e1 : toldT false false (getZ X k).n = pixText (getZ X k).n := rfl
      simp only [e1, r1, r2, Bool.false_eq_true, if_false]
      exact ⟨trivial, trivial, trivial, plainT_pix _⟩
    · obtain ⟨r1, r2⟩ := told_reads (sz_good X hk hX.1 hz) htk
      simp only [r1, r2, Bool.false_eq_true, if_false, if_true]
      exact ⟨trivial, trivial, trivial, plainT_told _ _ _⟩
  · rw [hw] at v1
    obtain ⟨m, hm, hl, h6, ha⟩ := word_at X hk hX.1 hw
    have h0 := word_low X hk hX.1 hw
    have eg : (wl k).getD m ByteArray.empty = tokT X k := by rw [List.getD_eq_getElem?_getD, ha]; rfl
    rw [← eg] at h0
    obtain ⟨w1, w2⟩ := words_read hk hw (by omega) hl h0
    rw [eg] at w1 w2
    unfold rdOk rdN rdZ
    rw [v1, v2 hw, w1, getZ_word X hk hw, hm]
    exact ⟨rfl, rfl, rfl, w2⟩
theorem ghost (s : ByteArray) : GhostSteps s where
  zero := fun X hX => ⟨by rw [rest_zero, hX.2], rfl⟩
  unsaid := fun {k Y t} hk hg hf X hX => by
    obtain ⟨h1, h2⟩ := hg X hX
    cases hsm : sameB X k
    · have hn := (plainT_ne (tok_reads hX.1 hk hsm).2.2.2).1
      have := (front_yes hk hsm hn).1
      rw [← h1, hf] at this
      cases this
    · exact ⟨h1.trans (rest_same hk hsm), h2.trans (mix_same hk hsm).symm⟩
  bad := fun {k Y t} hk hg hf hr ⟨X, hX⟩ => by
    obtain ⟨h1, h2⟩ := hg X hX
    cases hsm : sameB X k
    · obtain ⟨r1, _, _, r4⟩ := tok_reads hX.1 hk hsm
      obtain ⟨_, f2, _⟩ := front_yes hk hsm (plainT_ne r4).1
      rw [h1, f2, r1] at hr
      cases hr
    · have := front_not hk hsm
      rw [← h1, hf] at this
      cases this
  good := fun {k Y t} hk hg hf hr X hX => by
    obtain ⟨h1, h2⟩ := hg X hX
    cases hsm : sameB X k
    · obtain ⟨r1, r2, r3, r4⟩ := tok_reads hX.1 hk hsm
      obtain ⟨_, f2, f3⟩ := front_yes hk hsm (plainT_ne r4).1
      rw [h1, f2, f3, h2]
      refine ⟨rfl, ?_⟩
      unfold rdSt
      rw [r2, r3, mixT]
    · have := front_not hk hsm
      rw [← h1, hf] at this
      cases this
  last := fun {Y t} hg X hX => by
    obtain ⟨_, h2⟩ := hg X hX
    rw [mix_all] at h2
    exact h2.symm
end Go.Proofs.YtdgagjnkbmckoaaGreatDoor
