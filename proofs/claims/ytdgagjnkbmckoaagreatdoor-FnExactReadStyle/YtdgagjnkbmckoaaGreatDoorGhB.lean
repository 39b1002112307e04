/-
  The ghost of the reading: what the values of a style's text are read as.
-/
import Derived.Test.YtdgagjnkbmckoaaGreatDoorGhA
namespace Go.Proofs.YtdgagjnkbmckoaaGreatDoor
open Go.ChangeShapes Go.WideShapes Go.ChangeAt Go.RowKit
set_option linter.unusedVariables false

/-- A sign that is neither a colon nor a semicolon. -/
def plainC (c : UInt8) : Bool := decide (c ≠ 58) && decide (c ≠ 59)
def plainT (t : ByteArray) : Bool := t.data.toList.all plainC
theorem plainT_app (u v : ByteArray) : plainT (u ++ v) = (plainT u && plainT v) := by simp [plainT]
theorem plainT_num (q : Nat) : plainT (num q) = true := by
  unfold plainT
  rw [num_list, List.all_eq_true]
  intro c hc
  have h := dec_all q c hc
  unfold plainC
  rw [Bool.and_eq_true]
  refine ⟨decide_eq_true fun e => ?_, decide_eq_true fun e => ?_⟩ <;> (subst e; exact absurd h.2 (by decide))
theorem plainT_ne {t : ByteArray} (h : plainT t = true) : (∀ x ∈ t.data.toList, x ≠ 59) ∧ ∀ x ∈ t.data.toList, x ≠ 58 := by
  unfold plainT at h
  rw [List.all_eq_true] at h
  refine ⟨fun x hx => ?_, fun x hx => ?_⟩
  · have := h x hx
    unfold plainC at this
    rw [Bool.and_eq_true] at this
    exact of_decide_eq_true this.2
  · have := h x hx
    unfold plainC at this
    rw [Bool.and_eq_true] at this
    exact of_decide_eq_true this.1
theorem plainT_pix (n : Int) : plainT (pixText n) = true := by
  unfold pixText
  split
  · rw [plainT_app, plainT_app, plainT_app, plainT_num]
    have h1 : plainT (signText n) = true := by unfold signText; split <;> decide
    have h2 : ∀ j, plainT (quarter j) = true := fun j => by unfold quarter; split <;> decide
    rw [h1, h2]
    decide
  · decide
theorem plainT_numI (q : Int) : plainT (numI q) = true := by
  by_cases h : q < 0
  · obtain ⟨u, hu⟩ : ∃ u : Nat, q = -(u : Int) := ⟨q.natAbs, by omega⟩
    subst hu
    rw [numI_neg u (by omega), plainT_app, plainT_num]
    decide
  · obtain ⟨u, hu⟩ : ∃ u : Nat, q = (u : Int) := ⟨q.toNat, by omega⟩
    subst hu
    rw [numI_pos]
    exact plainT_num u
theorem plainT_told (a p : Bool) (n : Int) : plainT (toldT a p n) = true := by
  unfold toldT
  split
  · decide
  · split
    · rw [plainT_app, plainT_numI]; decide
    · exact plainT_pix n

/-! ### Words -/
def wOk (k m : Nat) : Bool := !isW k || decide ((wl k).length ≤ m) || decide (((wl k).getD m ByteArray.empty).size = 0) || ((getW (wm k) ((wl k).getD m ByteArray.empty) == some (m : Int)) && plainT ((wl k).getD m ByteArray.empty))
theorem wOk_all : ((List.range 18).all fun k => (List.range 6).all (wOk k)) = true := by decide +kernel
theorem words_read {k m : Nat} (hk : k < 18) (hw : isW k = true) (h6 : m < 6) (hm : m < (wl k).length) (h0 : ((wl k).getD m ByteArray.empty).size ≠ 0) : getW (wm k) ((wl k).getD m ByteArray.empty) = some (m : Int) ∧ plainT ((wl k).getD m ByteArray.empty) = true := by
  have h := wOk_all
  rw [List.all_eq_true] at h
  have h1 := h k (List.mem_range.2 hk)
  rw [List.all_eq_true] at h1
  have h2 := h1 m (List.mem_range.2 h6)
  unfold wOk at h2
  rw [hw, decide_eq_false (by omega), decide_eq_false h0] at h2
  simp only [Bool.not_true, Bool.false_or, Bool.and_eq_true] at h2
  exact ⟨by simpa using h2.1, h2.2⟩
theorem isVW {k : Nat} (hk : k < 18) : isV k = isW k ∧ (isW k = true → isZ k = false) := by
  rcases lt18 hk with rfl | rfl | rfl | rfl | rfl | rfl | rfl | rfl | rfl | rfl | rfl | rfl | rfl | rfl | rfl | rfl | rfl | rfl <;> exact ⟨rfl, fun _ => by first | rfl | contradiction⟩
/-! ### Lengths and sizes -/
theorem last_px (u : ByteArray) : autoB (u ++ ⟨#[112, 120]⟩) = false ∧ pcB (u ++ ⟨#[112, 120]⟩) = false := by
  have e : (u ++ ⟨#[112, 120]⟩).toList = u.data.toList ++ [112, 120] := by rw [ByteArray.toList_eq]; simp
  constructor
  · unfold autoB
    rw [e]
    refine beq_false_of_ne fun h => ?_
    have := congrArg List.getLast? h
    simp at this
  · unfold pcB
    have e2 : ((u ++ ⟨#[112, 120]⟩).extract ((u ++ ⟨#[112, 120]⟩).size - 1) (u ++ ⟨#[112, 120]⟩).size).toList = [120] := by
      have h1 : u ++ ⟨#[112, 120]⟩ = (u ++ ⟨#[112]⟩) ++ ⟨#[120]⟩ := by apply ByteArray.ext; apply Array.toList_inj.1; simp
      have h2 : (u ++ ⟨#[112, 120]⟩).size - 1 = (u ++ ⟨#[112]⟩).size := by simp only [ByteArray.size_append]; rfl
      rw [h2, h1, rear, ByteArray.toList_eq]
    rw [e2]
    simp
theorem pix_reads {n : Int} (h : pixB n = true) : szOk (pixText n) = true ∧ szVal (pixText n) = ⟨false, false, n⟩ := by
  obtain ⟨r1, r2⟩ := comes_back n h
  have et : pixText n = (signText n ++ num (n.natAbs / 64) ++ quarter (n.natAbs % 64 / 16)) ++ ⟨#[112, 120]⟩ := by simp [pixText, h]
  obtain ⟨l1, l2⟩ := last_px (signText n ++ num (n.natAbs / 64) ++ quarter (n.natAbs % 64 / 16))
  rw [← et] at l1 l2
  have h3 : pctFitB (pixText n) = false := by unfold pctFitB; rw [l2, Bool.false_and]
  unfold szOk szVal
  rw [l1, h3, r1, r2]
  exact ⟨rfl, rfl⟩

theorem pct_reads {n : Int} (h0 : n.tmod 100 = 0) (g0 : -100000 ≤ n) (g1 : n ≤ 100000) : szOk (numI (n.tdiv 100) ++ ⟨#[37]⟩) = true ∧ szVal (numI (n.tdiv 100) ++ ⟨#[37]⟩) = ⟨false, true, n⟩ := by
  have hq : 100 * n.tdiv 100 + n.tmod 100 = n := Int.mul_tdiv_add_tmod n 100
  rw [h0] at hq
  generalize n.tdiv 100 = q at hq
  have eT : (numI q ++ ⟨#[37]⟩).toList = (numI q).data.toList ++ [37] := by rw [ByteArray.toList_eq]; simp
  have hA : autoB (numI q ++ ⟨#[37]⟩) = false := by
    unfold autoB
    rw [eT]
    refine beq_false_of_ne fun h => ?_
    have := congrArg List.getLast? h
    simp at this
  have hsz : (numI q ++ ⟨#[37]⟩).size - 1 = (numI q).size := by rw [ByteArray.size_append]; rfl
  have hP : pcB (numI q ++ ⟨#[37]⟩) = true := by
    unfold pcB
    rw [hsz, rear, ByteArray.size_append]
    have : 1 ≤ (numI q).size + (⟨#[37]⟩ : ByteArray).size := by show 1 ≤ _ + 1; omega
    rw [decide_eq_true this, ByteArray.toList_eq]
    rfl
  have hR : pcR (numI q ++ ⟨#[37]⟩) = numI q := by unfold pcR; rw [hP, if_pos rfl, hsz]; exact front _ _
  have key : ∃ u : Nat, u ≤ 1000 ∧ bodyOf (numI q) = num u ∧ (if negB (numI q) then -((u : Int) * 100) else (u : Int) * 100) = n := by
    by_cases hneg : q < 0
    · obtain ⟨u, hu⟩ : ∃ u : Nat, q = -(u : Int) := ⟨q.natAbs, by omega⟩
      subst hu
      rw [numI_neg u (by omega)]
      obtain ⟨n1, n2⟩ := neg_reads (num u)
      exact ⟨u, by omega, n2, by rw [n1, if_pos rfl]; omega⟩
    · obtain ⟨u, hu⟩ : ∃ u : Nat, q = (u : Int) := ⟨q.toNat, by omega⟩
      subst hu
      rw [numI_pos]
      have e : num u = num u ++ ⟨#[]⟩ := by apply ByteArray.ext; simp
      obtain ⟨n1, n2⟩ := pos_reads u ⟨#[]⟩
      rw [← e] at n1 n2
      exact ⟨u, by omega, n2, by rw [n1, if_neg (by decide)]; omega⟩
  obtain ⟨u, hu, hb, hn⟩ := key
  have hd : digsB (num u) 4 = true := by
    have h4 := (l1Num_pow 3 u (by omega) (by omega)).1
    exact digsB_good (num_pos u) (by omega) (num_dig u)
  have hv : val (num u).data.toList = (u : Int) := by rw [num_list]; exact dec_val u
  have hF : pctFitB (numI q ++ ⟨#[37]⟩) = true := by unfold pctFitB; rw [hP, hR, hb, hd]; rfl
  have hV : pctVal (numI q ++ ⟨#[37]⟩) = (u : Int) * 100 := by unfold pctVal; rw [hR, hb, hv]
  have hO : pctOk (numI q ++ ⟨#[37]⟩) = true := by unfold pctOk; rw [hF, hV, Bool.true_and]; exact decide_eq_true (by omega)
  have hS : pctSgn (numI q ++ ⟨#[37]⟩) = n := by unfold pctSgn; rw [hR, hV]; exact hn
  unfold szOk szVal
  rw [hA, hF, hO, hS]
  exact ⟨rfl, rfl⟩
theorem told_reads {a p : Bool} {n : Int} (h : szB a p n = true) (ht : toldB a p n = true) : szOk (toldT a p n) = true ∧ szVal (toldT a p n) = ⟨a, p, n⟩ := by
  cases a
  · cases p
    · exact pix_reads ht
    · have h1 : inB (-100000) 100000 n = true := h
      have h2 := inB_yes h1
      exact pct_reads (of_decide_eq_true ht) h2.1 h2.2
  · have h1 : (!p && decide (n = 0)) = true := h
    rw [Bool.and_eq_true] at h1
    have hp : p = false := by simpa using h1.1
    have hn := of_decide_eq_true h1.2
    subst hp hn
    have hA : autoB (toldT true false 0) = true := by
      show autoB ⟨#[97, 117, 116, 111]⟩ = true
      unfold autoB
      rw [ByteArray.toList_eq]
      rfl
    unfold szOk szVal
    rw [hA]
    exact ⟨rfl, rfl⟩
end Go.Proofs.YtdgagjnkbmckoaaGreatDoor
