/-
  A length comes back from its text: what ReadPixels reads of pixText n is n.
-/
import Derived.Test.YtijondjiehoafaaDoorRound
import Derived.Test.YtijondjiehoafaaDoorText
import Derived.Test.YtijondjiehoafaaDoorRead5
namespace Go.Proofs.YtijondjiehoafaaDoor

/-- The number behind the sign, as it is read. -/
theorem body_reads (q j : Nat) (hq : q < 100000) (hj : j < 4) : fitB (num q ++ quarter j) = true ∧ amount (num q ++ quarter j) = (64 * q + 16 * j : Nat) := by
  have hv : val (num q).data.toList = q := by rw [num_list, dec_val]
  have hd := num_digs q hq
  have : j = 0 ∨ j = 1 ∨ j = 2 ∨ j = 3 := by omega
  rcases this with rfl | rfl | rfl | rfl
  · have e : num q ++ quarter 0 = num q := by
      apply ByteArray.ext
      simp [quarter]
    obtain ⟨c1, c2, c3⟩ := cut_plain q
    rw [e]
    refine ⟨by simp [fitB, c1, c2, hd], ?_⟩
    have h0 : hund ⟨#[]⟩ = 0 := rfl
    unfold amount
    rw [c2, c3, hv, h0]
    omega
  · obtain ⟨c1, c2, c3⟩ := cut_point q [50, 53]
    have e : num q ++ quarter 1 = num q ++ ⟨([46, 50, 53] : List UInt8).toArray⟩ := rfl
    rw [e]
    have hp : digsB ⟨([50, 53] : List UInt8).toArray⟩ 2 = true := by decide
    have h0 : hund ⟨([50, 53] : List UInt8).toArray⟩ = 25 := by decide
    refine ⟨by simp only [fitB, c1, c2, c3, hd, hp, Bool.or_true, Bool.and_self], ?_⟩
    unfold amount
    rw [c2, c3, hv, h0]
    omega
  · obtain ⟨c1, c2, c3⟩ := cut_point q [53]
    have e : num q ++ quarter 2 = num q ++ ⟨([46, 53] : List UInt8).toArray⟩ := rfl
    rw [e]
    have hp : digsB ⟨([53] : List UInt8).toArray⟩ 2 = true := by decide
    have h0 : hund ⟨([53] : List UInt8).toArray⟩ = 50 := by decide
    refine ⟨by simp only [fitB, c1, c2, c3, hd, hp, Bool.or_true, Bool.and_self], ?_⟩
    unfold amount
    rw [c2, c3, hv, h0]
    omega
  · obtain ⟨c1, c2, c3⟩ := cut_point q [55, 53]
    have e : num q ++ quarter 3 = num q ++ ⟨([46, 55, 53] : List UInt8).toArray⟩ := rfl
    rw [e]
    have hp : digsB ⟨([55, 53] : List UInt8).toArray⟩ 2 = true := by decide
    have h0 : hund ⟨([55, 53] : List UInt8).toArray⟩ = 75 := by decide
    refine ⟨by simp only [fitB, c1, c2, c3, hd, hp, Bool.or_true, Bool.and_self], ?_⟩
    unfold amount
    rw [c2, c3, hv, h0]
    omega
theorem px_reads (u : ByteArray) : pxB (u ++ ⟨#[112, 120]⟩) = true ∧ numOf (u ++ ⟨#[112, 120]⟩) = u := by
  have es : (u ++ ⟨#[112, 120]⟩).size = u.size + 2 := by rw [ByteArray.size_append]; rfl
  have e : pxB (u ++ ⟨#[112, 120]⟩) = true := by
    have h2 : 2 ≤ (u ++ ⟨#[112, 120]⟩).size := by omega
    have h3 : (u ++ ⟨#[112, 120]⟩).size - 2 = u.size := by omega
    unfold pxB
    rw [h3, rear]
    simp only [h2, decide_true, Bool.true_and]
    rw [Lib.toList_data]
    rfl
  refine ⟨e, ?_⟩
  unfold numOf
  rw [if_pos e]
  have h3 : (u ++ ⟨#[112, 120]⟩).size - 2 = u.size := by omega
  rw [h3]
  exact front _ _
theorem neg_reads (b : ByteArray) : negB (⟨#[45]⟩ ++ b) = true ∧ bodyOf (⟨#[45]⟩ ++ b) = b := by
  have es : (⟨#[45]⟩ ++ b : ByteArray).size = 1 + b.size := by rw [ByteArray.size_append]; rfl
  have e : negB (⟨#[45]⟩ ++ b) = true := by
    have h1 : 1 ≤ (⟨#[45]⟩ ++ b : ByteArray).size := by omega
    have hf : (⟨#[45]⟩ ++ b : ByteArray).extract 0 1 = ⟨#[45]⟩ := front ⟨#[45]⟩ b
    unfold negB
    rw [hf]
    simp only [h1, decide_true, Bool.true_and]
    rw [Lib.toList_data]
    rfl
  refine ⟨e, ?_⟩
  unfold bodyOf
  rw [if_pos e]
  exact rear ⟨#[45]⟩ b
theorem pos_reads (q : Nat) (r : ByteArray) : negB (num q ++ r) = false ∧ bodyOf (num q ++ r) = num q ++ r := by
  have e : negB (num q ++ r) = false := by
    cases h : negB (num q ++ r) with
    | false => rfl
    | true =>
      unfold negB at h
      simp only [Bool.and_eq_true, beq_iff_eq] at h
      have h2 := h.2
      rw [Lib.toList_data, ByteArray.data_extract, Array.toList_extract] at h2
      have hl : (num q ++ r).data.toList = Lib.decDigits q ++ r.data.toList := by rw [← num_list]; simp
      rw [hl] at h2
      cases hd : Lib.decDigits q with
      | nil => exact absurd hd (dec_ne q)
      | cons d l =>
        have h48 := (dec_all q d (by rw [hd]; simp)).1
        rw [hd] at h2
        simp at h2
        subst h2
        exact absurd h48 (by decide)
  refine ⟨e, ?_⟩
  unfold bodyOf
  rw [e]
  rfl
/-- What is read of a length's text is that length. -/
theorem comes_back (n : Int) (h : pixB n = true) : readB (pixText n) = true ∧ readN (pixText n) = n := by
  have g := of_decide_eq_true h
  obtain ⟨g1, g2, g3⟩ := g
  have hm : n.natAbs % 16 = 0 := by
    have := Int.natAbs_tmod n 16
    rw [g3] at this
    simpa using this.symm
  have et : pixText n = signText n ++ num (n.natAbs / 64) ++ quarter (n.natAbs % 64 / 16) ++ ⟨#[112, 120]⟩ := by simp [pixText, h]
  obtain ⟨f1, f2⟩ := body_reads (n.natAbs / 64) (n.natAbs % 64 / 16) (by omega) (by omega)
  obtain ⟨p1, p2⟩ := px_reads (signText n ++ num (n.natAbs / 64) ++ quarter (n.natAbs % 64 / 16))
  have hs : fitB (bodyOf (signText n ++ num (n.natAbs / 64) ++ quarter (n.natAbs % 64 / 16))) = true ∧ signed (signText n ++ num (n.natAbs / 64) ++ quarter (n.natAbs % 64 / 16)) = n := by
    by_cases hn : n < 0
    · have es : signText n = ⟨#[45]⟩ := if_pos hn
      rw [es, ByteArray.append_assoc]
      obtain ⟨n1, n2⟩ := neg_reads (num (n.natAbs / 64) ++ quarter (n.natAbs % 64 / 16))
      unfold signed
      rw [n2, if_pos n1]
      exact ⟨f1, by rw [f2]; omega⟩
    · have es : signText n ++ num (n.natAbs / 64) = num (n.natAbs / 64) := by
        have : signText n = ⟨#[]⟩ := if_neg hn
        rw [this]
        apply ByteArray.ext
        simp
      rw [es]
      obtain ⟨n1, n2⟩ := pos_reads (n.natAbs / 64) (quarter (n.natAbs % 64 / 16))
      unfold signed
      rw [n2, n1]
      refine ⟨f1, ?_⟩
      simp only [Bool.false_eq_true, if_false]
      rw [f2]
      omega
  rw [et]
  obtain ⟨r1, r2⟩ := read_is p1 (by rw [p2]; exact hs.1)
  rw [p2, hs.2] at r1 r2
  have hg : lenGood n = true := decide_eq_true ⟨g1, g2⟩
  rw [r1, r2, hg]
  exact ⟨rfl, rfl⟩
end Go.Proofs.YtijondjiehoafaaDoor
