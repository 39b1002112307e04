/-
  Which things of a good style can be told, as the model asks it.
-/
import Derived.Test.YtdgagjnkbmckoaaGreatDoorTxtL
namespace Go.Proofs.YtdgagjnkbmckoaaGreatDoor
open Go.ChangeShapes Go.WideShapes Go.ChangeAt Go.RowKit
set_option linter.unusedVariables false

def goodZ (k : Nat) (p : Bool) (n : Int) : Bool := if p then decide (n.tmod 100 = 0) else (decide (n.tmod 16 = 0) || (decide (n = -1) && decide (k = 6)))
theorem pixB_in {n : Int} (g0 : -1000000 ≤ n) (g1 : n ≤ 1000000) : pixB n = decide (n.tmod 16 = 0) := by
  unfold pixB
  rw [Bool.eq_iff_iff]
  simp only [decide_eq_true_eq]
  exact ⟨fun h => h.2.2, fun h => ⟨g0, g1, h⟩⟩
theorem good_len {n : Int} (k : Nat) (hk : k ≠ 6) (g0 : -1000000 ≤ n) (g1 : n ≤ 1000000) : (decide (n = 0) || pixB n) = goodZ k false n := by
  rw [pixB_in g0 g1]
  have e : goodZ k false n = (decide (n.tmod 16 = 0) || (decide (n = -1) && decide (k = 6))) := rfl
  rw [e, decide_eq_false hk, Bool.and_false, Bool.or_false]
  by_cases h : n = 0
  · subst h; decide
  · simp [h]
theorem good_max {n : Int} (g0 : -1000000 ≤ n) (g1 : n ≤ 1000000) : (decide (n = -1) || pixB n) = goodZ 6 false n := by
  rw [pixB_in g0 g1]
  have e : goodZ 6 false n = (decide (n.tmod 16 = 0) || (decide (n = -1) && true)) := rfl
  rw [e, Bool.and_true, Bool.or_comm]
theorem good_size {a p : Bool} {n : Int} (k : Nat) (hk : k ≠ 6) (a0 : Bool) (h : szB a p n = true) : (decide (a = a0 ∧ p = false ∧ n = 0) || toldB a p n) = goodZ k p n := by
  have hb := size_bd h
  cases a
  · cases p
    · have e : toldB false false n = pixB n := rfl
      rw [e, ← good_len k hk hb.1 hb.2]
      cases a0
      · simp
      · by_cases hn : n = 0
        · subst hn; decide
        · simp [hn]
    · have e : toldB false true n = decide (n.tmod 100 = 0) := rfl
      rw [e]
      simp [goodZ]
  · have e : toldB true p n = true := rfl
    rw [e, Bool.or_true]
    cases p
    · simp [szB] at h
      subst h
      rfl
    · simp [szB] at h
theorem good_any (s : St) {k : Nat} (hk : k < 18) (hs : styleB s = true) : (sameB s k || tokB s k) = goodZ k (getZ s k).p (getZ s k).n := by
  have bd := getZ_bd s hk hs
  have h := hs
  unfold styleB gA gB gC gD gE at h
  simp only [Bool.and_eq_true] at h
  have z1 := h.1.1.1.2.1.1.1
  have z2 := h.1.1.1.2.1.1.2
  have z3 := h.1.1.1.2.1.2
  have z4 := h.1.1.1.2.2
  clear h hs
  rcases lt18 hk with rfl | rfl | rfl | rfl | rfl | rfl | rfl | rfl | rfl | rfl | rfl | rfl | rfl | rfl | rfl | rfl | rfl | rfl
  · show (_ || true) = true; exact Bool.or_true _
  · show (_ || true) = true; exact Bool.or_true _
  · show (_ || true) = true; exact Bool.or_true _
  · exact good_size 3 (by decide) _ z1
  · exact good_size 4 (by decide) _ z2
  · exact good_len 5 (by decide) bd.1 bd.2
  · exact good_max bd.1 bd.2
  · exact good_len 7 (by decide) bd.1 bd.2
  · exact good_size 8 (by decide) _ z4
  · exact good_len 9 (by decide) bd.1 bd.2
  · exact good_size 10 (by decide) _ z3
  · exact good_len 11 (by decide) bd.1 bd.2
  · exact good_len 12 (by decide) bd.1 bd.2
  · show (_ || true) = true; exact Bool.or_true _
  · show (_ || true) = true; exact Bool.or_true _
  · exact good_len 15 (by decide) bd.1 bd.2
  · exact good_len 16 (by decide) bd.1 bd.2
  · exact good_len 17 (by decide) bd.1 bd.2
end Go.Proofs.YtdgagjnkbmckoaaGreatDoor
