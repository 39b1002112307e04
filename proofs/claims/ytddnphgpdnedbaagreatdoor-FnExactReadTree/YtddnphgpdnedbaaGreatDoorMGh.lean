/-
  The plain numbers behind JoinMargins: the greatest of the margins above 0 and the least of those below 0, taken one by one from the left.
  Plain facts for FnLengths: margins join alike from behind, and a length comes back from its text.
  A length comes back from its text: what ReadPixels reads of pixText n is n.
  The ghost of the reading, as plain lemmas: pieces, cuts, names.
  The ghost of the reading: what the values of a style's text are read as.
  The ghost of the reading: its steps, for the program.
-/
import Derived.Test.YtddnphgpdnedbaaGreatDoorMRe
import Derived.Test.YtddnphgpdnedbaaGreatDoorNum
import Derived.Test.YtddnphgpdnedbaaGreatDoorMTe
import Derived.Test.YtddnphgpdnedbaaGreatDoorMRf
import Derived.Test.YtddnphgpdnedbaaGreatDoorMRr
import Derived.Test.YtddnphgpdnedbaaGreatDoorMTg
namespace Go.Proofs.YtddnphgpdnedbaaGreatDoor
def goodB (n : Int) : Bool := decide (-1000000 ≤ n ∧ n ≤ 1000000)
theorem goodB_yes {n : Int} (h : -1000000 ≤ n) (k : n ≤ 1000000) : goodB n = true := decide_eq_true ⟨h, k⟩
theorem goodB_no {n : Int} (h : ¬ (-1000000 ≤ n ∧ n ≤ 1000000)) : goodB n = false := decide_eq_false h
theorem goodB_of {n : Int} (h : goodB n = true) : -1000000 ≤ n ∧ n ≤ 1000000 := of_decide_eq_true h
def up (l : List Int) : Int := l.foldl (fun m z => max m z) 0
def lo (l : List Int) : Int := l.foldl (fun m z => min m z) 0
theorem up_snoc (l : List Int) (z : Int) : up (l ++ [z]) = max (up l) z := by simp [up]
theorem lo_snoc (l : List Int) (z : Int) : lo (l ++ [z]) = min (lo l) z := by simp [lo]
theorem take_next (zs : List Int) (k : Nat) (h : k < zs.length) : zs.take (k + 1) = zs.take k ++ [zs.getD k 0] := by
  rw [List.take_succ_eq_append_getElem h, List.getD_eq_getElem?_getD, List.getElem?_eq_getElem h]; rfl
theorem up_next (zs : List Int) (k : Nat) (h : k < zs.length) : up (zs.take (k + 1)) = max (up (zs.take k)) (zs.getD k 0) := by rw [take_next zs k h, up_snoc]
theorem lo_next (zs : List Int) (k : Nat) (h : k < zs.length) : lo (zs.take (k + 1)) = min (lo (zs.take k)) (zs.getD k 0) := by rw [take_next zs k h, lo_snoc]
/-- The first k numbers are lengths. -/
def GoodTo (zs : List Int) (k : Nat) : Prop := ∀ j, j < k → goodB (zs.getD j 0) = true
theorem goodTo_zero (zs : List Int) : GoodTo zs 0 := fun j h => absurd h (by omega)
theorem goodTo_next {zs : List Int} {k : Nat} (h : GoodTo zs k) (hk : goodB (zs.getD k 0) = true) : GoodTo zs (k + 1) := fun j hj => by
  by_cases e : j = k
  · subst e; exact hk
  · exact h j (by omega)
theorem up_bd {zs : List Int} : ∀ k, k ≤ zs.length → GoodTo zs k → 0 ≤ up (zs.take k) ∧ up (zs.take k) ≤ 1000000 := by
  intro k
  induction k with
  | zero => intro _ _; simp [up]
  | succ k ih =>
    intro hk hg
    have h1 := ih (by omega) (fun j hj => hg j (by omega))
    have h2 := goodB_of (hg k (by omega))
    rw [up_next zs k (by omega)]
    omega
theorem lo_bd {zs : List Int} : ∀ k, k ≤ zs.length → GoodTo zs k → -1000000 ≤ lo (zs.take k) ∧ lo (zs.take k) ≤ 0 := by
  intro k
  induction k with
  | zero => intro _ _; simp [lo]
  | succ k ih =>
    intro hk hg
    have h1 := ih (by omega) (fun j hj => hg j (by omega))
    have h2 := goodB_of (hg k (by omega))
    rw [lo_next zs k (by omega)]
    omega
def joinB (zs : List Int) : Bool := decide (zs.length ≤ 40) && zs.all goodB
def joinN (zs : List Int) : Int := if joinB zs then up zs + lo zs else 0
theorem joinB_yes {zs : List Int} (h : zs.length ≤ 40) (g : GoodTo zs zs.length) : joinB zs = true := by
  have : zs.all goodB = true := by
    rw [List.all_eq_true]
    intro x hx
    obtain ⟨j, hj, rfl⟩ := List.getElem_of_mem hx
    have := g j hj
    rwa [List.getD_eq_getElem?_getD, List.getElem?_eq_getElem hj] at this
  simp [joinB, h, this]
theorem joinB_long {zs : List Int} (h : ¬ zs.length ≤ 40) : joinB zs = false := by simp [joinB, h]
theorem joinB_bad {zs : List Int} {k : Nat} (hk : k < zs.length) (h : goodB (zs.getD k 0) = false) : joinB zs = false := by
  have : zs.all goodB = false := by
    rw [List.all_eq_false]
    refine ⟨zs[k], List.getElem_mem hk, ?_⟩
    rw [List.getD_eq_getElem?_getD, List.getElem?_eq_getElem hk] at h
    simpa using h
  simp [joinB, this]
theorem joinN_yes {zs : List Int} (h : joinB zs = true) : joinN zs = up zs + lo zs := by simp [joinN, h]
theorem joinN_no {zs : List Int} (h : joinB zs = false) : joinN zs = 0 := by simp [joinN, h]
end Go.Proofs.YtddnphgpdnedbaaGreatDoor

namespace Go.Proofs.YtddnphgpdnedbaaGreatDoor
theorem foldl_max_out (l : List Int) : ∀ b x : Int, l.foldl (fun m z => max m z) (max b x) = max (l.foldl (fun m z => max m z) b) x := by
  induction l with
  | nil => intro b x; rfl
  | cons y l ih =>
    intro b x
    simp only [List.foldl_cons]
    rw [show max (max b x) y = max (max b y) x by omega]
    exact ih (max b y) x
theorem foldl_min_out (l : List Int) : ∀ b x : Int, l.foldl (fun m z => min m z) (min b x) = min (l.foldl (fun m z => min m z) b) x := by
  induction l with
  | nil => intro b x; rfl
  | cons y l ih =>
    intro b x
    simp only [List.foldl_cons]
    rw [show min (min b x) y = min (min b y) x by omega]
    exact ih (min b y) x
theorem up_cons (x : Int) (l : List Int) : up (x :: l) = max (up l) x := by
  unfold up
  rw [List.foldl_cons, foldl_max_out]
theorem lo_cons (x : Int) (l : List Int) : lo (x :: l) = min (lo l) x := by
  unfold lo
  rw [List.foldl_cons, foldl_min_out]
theorem up_back (l : List Int) : up l.reverse = up l := by
  induction l with
  | nil => rfl
  | cons x l ih => rw [List.reverse_cons, up_snoc, ih, up_cons]
theorem lo_back (l : List Int) : lo l.reverse = lo l := by
  induction l with
  | nil => rfl
  | cons x l ih => rw [List.reverse_cons, lo_snoc, ih, lo_cons]
theorem joinB_back (l : List Int) : joinB l.reverse = joinB l := by simp [joinB]
theorem joinN_back (l : List Int) : joinN l.reverse = joinN l := by simp [joinN, joinB_back, up_back, lo_back]

theorem front (u v : ByteArray) : (u ++ v).extract 0 u.size = u := by
  apply ByteArray.ext
  simp
theorem rear (u v : ByteArray) : (u ++ v).extract u.size (u ++ v).size = v := by
  apply ByteArray.ext
  have e1 : u.data.extract u.size (u.size + v.size) = #[] := by
    apply Array.eq_empty_of_size_eq_zero
    simp only [Array.size_extract, ByteArray.size_data]
    omega
  have e2 : v.data.extract 0 v.size = v.data := by
    rw [← ByteArray.size_data]
    exact Array.extract_size
  simp
  rw [e1, e2, Array.empty_append]
theorem dec_all (n : Nat) : ∀ c ∈ Lib.decDigits n, 48 ≤ c.toNat ∧ c.toNat ≤ 57 := by
  induction n using Nat.strongRecOn with
  | _ n ih =>
    intro c hc
    rw [Lib.decDigits] at hc
    split at hc
    · simp at hc
      subst hc
      rw [UInt8.toNat_add]
      simp
      omega
    · rename_i h
      rcases List.mem_append.1 hc with hc | hc
      · exact ih (n / 10) (by omega) c hc
      · simp at hc
        subst hc
        rw [UInt8.toNat_add]
        simp
        omega
theorem dec_val (n : Nat) : val (Lib.decDigits n) = n := by
  induction n using Nat.strongRecOn with
  | _ n ih =>
    rw [Lib.decDigits]
    split
    · rename_i h
      have : (UInt8.ofNat (48 + n)).toNat = 48 + n := by rw [UInt8.toNat_ofNat']; omega
      simp only [val, List.foldl_cons, List.foldl_nil, this]
      omega
    · rename_i h
      have : (UInt8.ofNat (48 + n % 10)).toNat = 48 + n % 10 := by rw [UInt8.toNat_ofNat']; omega
      rw [val_snoc, ih (n / 10) (by omega), this]
      omega
theorem dec_ne (n : Nat) : Lib.decDigits n ≠ [] := by
  rw [Lib.decDigits]
  split <;> simp

theorem num_list (q : Nat) : (num q).data.toList = Lib.decDigits q := by unfold num; simp
theorem num_dig (q : Nat) : digB (num q) = true := by
  unfold digB
  rw [num_list, List.all_eq_true]
  intro c hc
  exact decide_eq_true (dec_all q c hc)
theorem num_pos (q : Nat) : 1 ≤ (num q).size := by
  have h := dec_ne q
  have e : (num q).size = (Lib.decDigits q).length := by rw [← num_list]; simp
  rw [e]
  exact List.length_pos_iff.2 h
theorem num_digs (q : Nat) (h : q < 100000) : digsB (num q) 5 = true := by
  have h5 := (l1Num_pow 4 q (by omega) (by omega)).1
  exact digsB_good (num_pos q) (by omega) (num_dig q)
theorem index_none : ∀ l : List UInt8, (∀ c ∈ l, 48 ≤ c.toNat) → Lib.indexByte l 46 = -1
  | [], _ => rfl
  | d :: l, h => by
    have hd := h d (by simp)
    have hne : (d == 46) = false := by
      cases e : (d == 46) with
      | false => rfl
      | true => have : d = 46 := by simpa using e
                subst this
                exact absurd hd (by decide)
    have ih := index_none l (fun c hc => h c (by simp [hc]))
    rw [Lib.indexByte, hne, ih]
    rfl
theorem index_dot_at : ∀ (l r : List UInt8), (∀ c ∈ l, 48 ≤ c.toNat) → Lib.indexByte (l ++ 46 :: r) 46 = l.length
  | [], r, _ => by simp [Lib.indexByte]
  | d :: l, r, h => by
    have hd := h d (by simp)
    have hne : (d == 46) = false := by
      cases e : (d == 46) with
      | false => rfl
      | true => have : d = 46 := by simpa using e
                subst this
                exact absurd hd (by decide)
    have ih := index_dot_at l r (fun c hc => h c (by simp [hc]))
    rw [List.cons_append, Lib.indexByte, hne, ih]
    have : (((l.length : Nat) : Int) == -1) = false := by simp
    rw [this]
    simp
/-- A whole number's text has no point. -/
theorem cut_plain (q : Nat) : dotB (num q) = false ∧ wholeOf (num q) = num q ∧ partOf (num q) = ⟨#[]⟩ := by
  apply cutOf_miss
  rw [num_list]
  exact index_none _ (fun c hc => (dec_all q c hc).1)
theorem cut_point (q : Nat) (r : List UInt8) : dotB (num q ++ ⟨(46 :: r).toArray⟩) = true ∧ wholeOf (num q ++ ⟨(46 :: r).toArray⟩) = num q ∧ partOf (num q ++ ⟨(46 :: r).toArray⟩) = ⟨r.toArray⟩ := by
  have hx : Lib.indexByte (num q ++ ⟨(46 :: r).toArray⟩).data.toList 46 = ((num q).size : Nat) := by
    have e : (num q ++ ⟨(46 :: r).toArray⟩).data.toList = Lib.decDigits q ++ 46 :: r := by
      rw [← num_list]; simp
    have es : (num q).size = (Lib.decDigits q).length := by rw [← num_list]; simp
    rw [e, es]
    exact index_dot_at _ r (fun c hc => (dec_all q c hc).1)
  obtain ⟨h1, h2, h3⟩ := cutOf_hit hx
  refine ⟨h1, h2.trans (front _ _), h3.trans ?_⟩
  have e : num q ++ ⟨(46 :: r).toArray⟩ = (num q ++ ⟨#[46]⟩) ++ ⟨r.toArray⟩ := by
    apply ByteArray.ext
    simp
  have es : (num q).size + 1 = (num q ++ ⟨#[46]⟩).size := by rw [ByteArray.size_append]; rfl
  rw [e, es]
  exact rear _ _
end Go.Proofs.YtddnphgpdnedbaaGreatDoor

namespace Go.Proofs.YtddnphgpdnedbaaGreatDoor

/-- The number behind the sign, as it is read. -/
theorem body_reads (q j : Nat) (hq : q < 100000) (hj : j < 4) : fitB (num q ++ quarter j) = true ∧ amount (num q ++ quarter j) = (64 * q + 16 * j : Nat) := by
  have hv : val (num q).data.toList = q := by rw [num_list, dec_val]
  have hd := num_digs q hq
  have : j = 0 ∨ j = 1 ∨ j = 2 ∨ j = 3 := by omega
  rcases this with rfl | rfl | rfl | rfl
  · have e : num q ++ quarter 0 = num q := by
      apply ByteArray.ext
      simp [quarter]
    obtain ⟨c1, c2, c3⟩ := cut_plain q
    rw [e]
    refine ⟨by simp [fitB, c1, c2, hd], ?_⟩
    have h0 : hund ⟨#[]⟩ = 0 := rfl
    unfold amount
    rw [c2, c3, hv, h0]
    omega
  · obtain ⟨c1, c2, c3⟩ := cut_point q [50, 53]
    have e : num q ++ quarter 1 = num q ++ ⟨([46, 50, 53] : List UInt8).toArray⟩ := rfl
    rw [e]
    have hp : digsB ⟨([50, 53] : List UInt8).toArray⟩ 2 = true := by decide
    have h0 : hund ⟨([50, 53] : List UInt8).toArray⟩ = 25 := by decide
    refine ⟨by simp only [fitB, c1, c2, c3, hd, hp, Bool.or_true, Bool.and_self], ?_⟩
    unfold amount
    rw [c2, c3, hv, h0]
    omega
  · obtain ⟨c1, c2, c3⟩ := cut_point q [53]
    have e : num q ++ quarter 2 = num q ++ ⟨([46, 53] : List UInt8).toArray⟩ := rfl
    rw [e]
    have hp : digsB ⟨([53] : List UInt8).toArray⟩ 2 = true := by decide
    have h0 : hund ⟨([53] : List UInt8).toArray⟩ = 50 := by decide
    refine ⟨by simp only [fitB, c1, c2, c3, hd, hp, Bool.or_true, Bool.and_self], ?_⟩
    unfold amount
    rw [c2, c3, hv, h0]
    omega
  · obtain ⟨c1, c2, c3⟩ := cut_point q [55, 53]
    have e : num q ++ quarter 3 = num q ++ ⟨([46, 55, 53] : List UInt8).toArray⟩ := rfl
    rw [e]
    have hp : digsB ⟨([55, 53] : List UInt8).toArray⟩ 2 = true := by decide
    have h0 : hund ⟨([55, 53] : List UInt8).toArray⟩ = 75 := by decide
    refine ⟨by simp only [fitB, c1, c2, c3, hd, hp, Bool.or_true, Bool.and_self], ?_⟩
    unfold amount
    rw [c2, c3, hv, h0]
    omega
theorem px_reads (u : ByteArray) : pxB (u ++ ⟨#[112, 120]⟩) = true ∧ numOf (u ++ ⟨#[112, 120]⟩) = u := by
  have es : (u ++ ⟨#[112, 120]⟩).size = u.size + 2 := by rw [ByteArray.size_append]; rfl
  have e : pxB (u ++ ⟨#[112, 120]⟩) = true := by
    have h2 : 2 ≤ (u ++ ⟨#[112, 120]⟩).size := by omega
    have h3 : (u ++ ⟨#[112, 120]⟩).size - 2 = u.size := by omega
    unfold pxB
    rw [h3, rear]
    simp only [h2, decide_true, Bool.true_and]
    rw [Lib.toList_data]
    rfl
  refine ⟨e, ?_⟩
  unfold numOf
  rw [if_pos e]
  have h3 : (u ++ ⟨#[112, 120]⟩).size - 2 = u.size := by omega
  rw [h3]
  exact front _ _
theorem neg_reads (b : ByteArray) : negB (⟨#[45]⟩ ++ b) = true ∧ bodyOf (⟨#[45]⟩ ++ b) = b := by
  have es : (⟨#[45]⟩ ++ b : ByteArray).size = 1 + b.size := by rw [ByteArray.size_append]; rfl
  have e : negB (⟨#[45]⟩ ++ b) = true := by
    have h1 : 1 ≤ (⟨#[45]⟩ ++ b : ByteArray).size := by omega
    have hf : (⟨#[45]⟩ ++ b : ByteArray).extract 0 1 = ⟨#[45]⟩ := front ⟨#[45]⟩ b
    unfold negB
    rw [hf]
    simp only [h1, decide_true, Bool.true_and]
    rw [Lib.toList_data]
    rfl
  refine ⟨e, ?_⟩
  unfold bodyOf
  rw [if_pos e]
  exact rear ⟨#[45]⟩ b
theorem pos_reads (q : Nat) (r : ByteArray) : negB (num q ++ r) = false ∧ bodyOf (num q ++ r) = num q ++ r := by
  have e : negB (num q ++ r) = false := by
    cases h : negB (num q ++ r) with
    | false => rfl
    | true =>
      unfold negB at h
      simp only [Bool.and_eq_true, beq_iff_eq] at h
      have h2 := h.2
      rw [Lib.toList_data, ByteArray.data_extract, Array.toList_extract] at h2
      have hl : (num q ++ r).data.toList = Lib.decDigits q ++ r.data.toList := by rw [← num_list]; simp
      rw [hl] at h2
      cases hd : Lib.decDigits q with
      | nil => exact absurd hd (dec_ne q)
      | cons d l =>
        have h48 := (dec_all q d (by rw [hd]; simp)).1
        rw [hd] at h2
        simp at h2
        subst h2
        exact absurd h48 (by decide)
  refine ⟨e, ?_⟩
  unfold bodyOf
  rw [e]
  rfl
/-- What is read of a length's text is that length. -/
theorem comes_back (n : Int) (h : pixB n = true) : readB (pixText n) = true ∧ readN (pixText n) = n := by
  have g := of_decide_eq_true h
  obtain ⟨g1, g2, g3⟩ := g
  have hm : n.natAbs % 16 = 0 := by
    have := Int.natAbs_tmod n 16
    rw [g3] at this
    simpa using this.symm
  have et : pixText n = signText n ++ num (n.natAbs / 64) ++ quarter (n.natAbs % 64 / 16) ++ ⟨#[112, 120]⟩ := by simp [pixText, h]
  obtain ⟨f1, f2⟩ := body_reads (n.natAbs / 64) (n.natAbs % 64 / 16) (by omega) (by omega)
  obtain ⟨p1, p2⟩ := px_reads (signText n ++ num (n.natAbs / 64) ++ quarter (n.natAbs % 64 / 16))
  have hs : fitB (bodyOf (signText n ++ num (n.natAbs / 64) ++ quarter (n.natAbs % 64 / 16))) = true ∧ signed (signText n ++ num (n.natAbs / 64) ++ quarter (n.natAbs % 64 / 16)) = n := by
    by_cases hn : n < 0
    · have es : signText n = ⟨#[45]⟩ := if_pos hn
      rw [es, ByteArray.append_assoc]
      obtain ⟨n1, n2⟩ := neg_reads (num (n.natAbs / 64) ++ quarter (n.natAbs % 64 / 16))
      unfold signed
      rw [n2, if_pos n1]
      exact ⟨f1, by rw [f2]; omega⟩
    · have es : signText n ++ num (n.natAbs / 64) = num (n.natAbs / 64) := by
        have : signText n = ⟨#[]⟩ := if_neg hn
        rw [this]
        apply ByteArray.ext
        simp
      rw [es]
      obtain ⟨n1, n2⟩ := pos_reads (n.natAbs / 64) (quarter (n.natAbs % 64 / 16))
      unfold signed
      rw [n2, n1]
      refine ⟨f1, ?_⟩
      simp only [Bool.false_eq_true, if_false]
      rw [f2]
      omega
  rw [et]
  obtain ⟨r1, r2⟩ := read_is p1 (by rw [p2]; exact hs.1)
  rw [p2, hs.2] at r1 r2
  have hg : lenGood n = true := decide_eq_true ⟨g1, g2⟩
  rw [r1, r2, hg]
  exact ⟨rfl, rfl⟩
end Go.Proofs.YtddnphgpdnedbaaGreatDoor

namespace Go.Proofs.YtddnphgpdnedbaaGreatDoor
open Go.ChangeShapes Go.WideShapes Go.ChangeAt Go.RowKit
set_option linter.unusedVariables false

theorem rest_same {X : St} {k : Nat} (hk : k < 18) (h : sameB X k = true) : restT X k = restT X (k + 1) := by
  unfold restT
  rw [show 18 - k = (18 - (k + 1)) + 1 by omega, restN, if_pos h]
theorem rest_diff {X : St} {k : Nat} (hk : k < 18) (h : sameB X k = false) : restT X k = pieceT X k ++ restT X (k + 1) := by
  unfold restT
  rw [show 18 - k = (18 - (k + 1)) + 1 by omega, restN, if_neg (by simp [h])]
theorem rest_all (X : St) : ∀ (n k : Nat), textTo X k ++ restN X n k = textTo X (k + n)
  | 0, k => by
    rw [restN, Nat.add_zero]
    apply ByteArray.ext
    simp
  | n + 1, k => by
    rw [restN, show k + (n + 1) = (k + 1) + n by omega, ← rest_all X n (k + 1)]
    cases h : sameB X k
    · rw [if_neg (by decide), textTo_next h, ByteArray.append_assoc]
    · rw [if_pos rfl, textTo_same h]
theorem rest_zero (X : St) : restT X 0 = textTo X 18 := by
  have h := rest_all X 18 0
  rw [Nat.zero_add] at h
  rw [← h]
  show _ = (⟨#[]⟩ : ByteArray) ++ _
  apply ByteArray.ext
  simp [restT]
theorem mix_all (X : St) : mixT X 18 = X := by
  obtain ⟨a, b, c, ⟨d1, d2, d3⟩, ⟨e1, e2, e3⟩, f, g, h, ⟨i1, i2, i3⟩, j, ⟨k1, k2, k3⟩, l, m, n, o, p, q, r⟩ := X
  rfl
theorem mix_plain (X : St) {k : Nat} (hk : k < 18) : setT (mixT X k) k (getN plainS k) (getZ plainS k) = mixT X k := by
  obtain ⟨a, b, c, ⟨d1, d2, d3⟩, ⟨e1, e2, e3⟩, f, g, h, ⟨i1, i2, i3⟩, j, ⟨k1, k2, k3⟩, l, m, n, o, p, q, r⟩ := X
  rcases lt18 hk with rfl | rfl | rfl | rfl | rfl | rfl | rfl | rfl | rfl | rfl | rfl | rfl | rfl | rfl | rfl | rfl | rfl | rfl <;> kernel_rfl
theorem mix_same {X : St} {k : Nat} (hk : k < 18) (h : sameB X k = true) : mixT X (k + 1) = mixT X k := by
  rw [sameB_eq X hk, Bool.and_eq_true] at h
  have h1 := of_decide_eq_true h.1
  have h2 := of_decide_eq_true h.2
  have h3 : getZ X k = getZ plainS k := by
    cases hX : getZ X k
    cases hP : getZ plainS k
    rw [hX, hP] at h2
    obtain ⟨q1, q2, q3⟩ := h2
    simp only at q1 q2 q3
    rw [q1, q2, q3]
  rw [mixT, h1, h3]
  exact mix_plain X hk

/-! ### A name with its colon at the front -/
theorem pre_app (u v : ByteArray) : preB (u ++ v) u = true ∧ preR (u ++ v) u = v := by
  have e : preB (u ++ v) u = true := by
    unfold preB
    rw [front, ByteArray.size_append]
    simp
  exact ⟨e, by unfold preR; rw [e, if_pos rfl]; exact rear u v⟩
theorem pre_empty (k : Nat) : preB ⟨#[]⟩ (nmC k) = false := by
  unfold preB
  have : ¬ (nmC k).size ≤ (⟨#[]⟩ : ByteArray).size := by
    unfold nmC
    rw [ByteArray.size_append]
    show ¬ _ + 1 ≤ 0
    omega
  simp [this]
theorem names_part : ∀ k, k < 18 → ∀ j, j < 18 → k ≠ j → ∃ p, p < (nmC k).data.toList.length ∧ p < (nmC j).data.toList.length ∧ (nmC k).data.toList[p]? ≠ (nmC j).data.toList[p]? := by
  decide +kernel
theorem pre_other {k j : Nat} (hk : k < 18) (hj : j < 18) (hne : k ≠ j) (r : ByteArray) : preB (nmC j ++ r) (nmC k) = false := by
  obtain ⟨p, p1, p2, p3⟩ := names_part k hk j hj hne
  cases h : preB (nmC j ++ r) (nmC k)
  · rfl
  · unfold preB at h
    rw [Bool.and_eq_true] at h
    have h2 := beq_iff_eq.1 h.2
    rw [ByteArray.toList_eq, ByteArray.toList_eq] at h2
    have e : ((nmC j ++ r).extract 0 (nmC k).size).data.toList = ((nmC j).data.toList ++ r.data.toList).take (nmC k).size := by simp [List.take_append]
    rw [e] at h2
    have h3 := congrArg (·[p]?) h2
    simp only [List.getElem?_take] at h3
    have p1' : p < (nmC k).size := by simpa using p1
    rw [if_pos p1', List.getElem?_append_left p2] at h3
    exact absurd h3.symm p3
theorem rest_front (X : St) : ∀ (n k : Nat), k + n = 18 → restN X n k = ⟨#[]⟩ ∨ ∃ j r, k ≤ j ∧ j < 18 ∧ restN X n k = nmC j ++ r
  | 0, k, _ => .inl rfl
  | n + 1, k, h => by
    rw [restN]
    split
    · rcases rest_front X n (k + 1) (by omega) with e | ⟨j, r, h1, h2, e⟩
      · exact .inl e
      · exact .inr ⟨j, r, by omega, h2, e⟩
    · refine .inr ⟨k, tokT X k ++ ⟨#[59]⟩ ++ restN X n (k + 1), Nat.le_refl _, by omega, ?_⟩
      unfold pieceT nmC
      simp only [ByteArray.append_assoc]
theorem front_not {X : St} {k : Nat} (hk : k < 18) (h : sameB X k = true) : frB k (restT X k) = false := by
  rw [rest_same hk h]
  unfold frB
  have e : preB (restT X (k + 1)) (nmC k) = false := by
    rcases rest_front X (18 - (k + 1)) (k + 1) (by omega) with e | ⟨j, r, h1, h2, e⟩
    · unfold restT
      rw [e]
      exact pre_empty k
    · unfold restT
      rw [e]
      exact pre_other hk h2 (by omega) r
  rw [e, Bool.false_and]

/-! ### Cut at a sign -/
theorem idx_sign (c : UInt8) : ∀ (l r : List UInt8), (∀ x ∈ l, x ≠ c) → Lib.indexByte (l ++ c :: r) c = l.length
  | [], r, _ => by simp [Lib.indexByte]
  | d :: l, r, h => by
    have hne : (d == c) = false := by simpa using h d (by simp)
    have ih := idx_sign c l r (fun x hx => h x (by simp [hx]))
    rw [List.cons_append, Lib.indexByte, hne, ih]
    have : (((l.length : Nat) : Int) == -1) = false := by simp
    rw [this]
    simp
theorem s_cut_at (u v : ByteArray) (h : ∀ x ∈ u.data.toList, x ≠ 59) : s_dotB (u ++ (⟨#[59]⟩ ++ v)) = true ∧ s_wholeOf (u ++ (⟨#[59]⟩ ++ v)) = u ∧ s_partOf (u ++ (⟨#[59]⟩ ++ v)) = v := by
  have hx : Lib.indexByte (u ++ (⟨#[59]⟩ ++ v)).data.toList 59 = (u.size : Nat) := by
    have e : (u ++ (⟨#[59]⟩ ++ v)).data.toList = u.data.toList ++ 59 :: v.data.toList := by simp
    rw [e, idx_sign 59 _ _ h]
    simp
  obtain ⟨h1, h2, h3⟩ := s_cutOf_hit hx
  refine ⟨h1, h2.trans (front _ _), h3.trans ?_⟩
  have e : u ++ (⟨#[59]⟩ ++ v) = (u ++ ⟨#[59]⟩) ++ v := by rw [ByteArray.append_assoc]
  have es : u.size + 1 = (u ++ ⟨#[59]⟩).size := by rw [ByteArray.size_append]; rfl
  rw [e, es]
  exact rear _ _
theorem front_yes {X : St} {k : Nat} (hk : k < 18) (h : sameB X k = false) (hn : ∀ x ∈ (tokT X k).data.toList, x ≠ 59) : frB k (restT X k) = true ∧ frV k (restT X k) = tokT X k ∧ frR k (restT X k) = restT X (k + 1) := by
  have e : restT X k = nmC k ++ (tokT X k ++ (⟨#[59]⟩ ++ restT X (k + 1))) := by
    rw [rest_diff hk h]
    unfold pieceT nmC
    simp only [ByteArray.append_assoc]
  obtain ⟨p1, p2⟩ := pre_app (nmC k) (tokT X k ++ (⟨#[59]⟩ ++ restT X (k + 1)))
  obtain ⟨c1, c2, c3⟩ := s_cut_at (tokT X k) (restT X (k + 1)) hn
  unfold frB frV frR
  rw [e, p1, p2, c1, c2, c3]
  exact ⟨rfl, rfl, rfl⟩
end Go.Proofs.YtddnphgpdnedbaaGreatDoor

namespace Go.Proofs.YtddnphgpdnedbaaGreatDoor
open Go.ChangeShapes Go.WideShapes Go.ChangeAt Go.RowKit
set_option linter.unusedVariables false

/-- A sign that is neither a colon nor a semicolon nor a line break. -/
def plainC (c : UInt8) : Bool := decide (c ≠ 58) && decide (c ≠ 59) && decide (c ≠ 10)
def plainT (t : ByteArray) : Bool := t.data.toList.all plainC
theorem plainT_app (u v : ByteArray) : plainT (u ++ v) = (plainT u && plainT v) := by simp [plainT]
theorem plainT_num (q : Nat) : plainT (num q) = true := by
  unfold plainT
  rw [num_list, List.all_eq_true]
  intro c hc
  have h := dec_all q c hc
  unfold plainC
  rw [Bool.and_eq_true, Bool.and_eq_true]
  refine ⟨⟨decide_eq_true fun e => ?_, decide_eq_true fun e => ?_⟩, decide_eq_true fun e => ?_⟩ <;> (subst e; first | exact absurd h.2 (by decide) | exact absurd h.1 (by decide))
theorem plainT_ne {t : ByteArray} (h : plainT t = true) : (∀ x ∈ t.data.toList, x ≠ 59) ∧ ∀ x ∈ t.data.toList, x ≠ 58 := by
  unfold plainT at h
  rw [List.all_eq_true] at h
  refine ⟨fun x hx => ?_, fun x hx => ?_⟩
  · have := h x hx
    unfold plainC at this
    rw [Bool.and_eq_true, Bool.and_eq_true] at this
    exact of_decide_eq_true this.1.2
  · have := h x hx
    unfold plainC at this
    rw [Bool.and_eq_true, Bool.and_eq_true] at this
    exact of_decide_eq_true this.1.1
theorem plainT_ten {t : ByteArray} (h : plainT t = true) (x : UInt8) (hx : x ∈ t.data.toList) : x ≠ 10 := by
  unfold plainT at h
  rw [List.all_eq_true] at h
  have := h x hx
  unfold plainC at this
  rw [Bool.and_eq_true, Bool.and_eq_true] at this
  exact of_decide_eq_true this.2
theorem plainT_pix (n : Int) : plainT (pixText n) = true := by
  unfold pixText
  split
  · rw [plainT_app, plainT_app, plainT_app, plainT_num]
    have h1 : plainT (signText n) = true := by unfold signText; split <;> decide
    have h2 : ∀ j, plainT (quarter j) = true := fun j => by unfold quarter; split <;> decide
    rw [h1, h2]
    decide
  · decide
theorem plainT_numI (q : Int) : plainT (numI q) = true := by
  by_cases h : q < 0
  · obtain ⟨u, hu⟩ : ∃ u : Nat, q = -(u : Int) := ⟨q.natAbs, by omega⟩
    subst hu
    rw [numI_neg u (by omega), plainT_app, plainT_num]
    decide
  · obtain ⟨u, hu⟩ : ∃ u : Nat, q = (u : Int) := ⟨q.toNat, by omega⟩
    subst hu
    rw [numI_pos]
    exact plainT_num u
theorem plainT_told (a p : Bool) (n : Int) : plainT (toldT a p n) = true := by
  unfold toldT
  split
  · decide
  · split
    · rw [plainT_app, plainT_numI]; decide
    · exact plainT_pix n

/-! ### Words -/
def wOk (k m : Nat) : Bool := !isW k || decide ((wl k).length ≤ m) || decide (((wl k).getD m ByteArray.empty).size = 0) || ((getW (wm k) ((wl k).getD m ByteArray.empty) == some (m : Int)) && plainT ((wl k).getD m ByteArray.empty))
theorem wOk_all : ((List.range 18).all fun k => (List.range 6).all (wOk k)) = true := by decide +kernel
theorem words_read {k m : Nat} (hk : k < 18) (hw : isW k = true) (h6 : m < 6) (hm : m < (wl k).length) (h0 : ((wl k).getD m ByteArray.empty).size ≠ 0) : getW (wm k) ((wl k).getD m ByteArray.empty) = some (m : Int) ∧ plainT ((wl k).getD m ByteArray.empty) = true := by
  have h := wOk_all
  rw [List.all_eq_true] at h
  have h1 := h k (List.mem_range.2 hk)
  rw [List.all_eq_true] at h1
  have h2 := h1 m (List.mem_range.2 h6)
  unfold wOk at h2
  rw [hw, decide_eq_false (by omega), decide_eq_false h0] at h2
  simp only [Bool.not_true, Bool.false_or, Bool.and_eq_true] at h2
  exact ⟨by simpa using h2.1, h2.2⟩
theorem isVW {k : Nat} (hk : k < 18) : isV k = isW k ∧ (isW k = true → isZ k = false) := by
  rcases lt18 hk with rfl | rfl | rfl | rfl | rfl | rfl | rfl | rfl | rfl | rfl | rfl | rfl | rfl | rfl | rfl | rfl | rfl | rfl <;> exact ⟨rfl, fun _ => by first | rfl | contradiction⟩
/-! ### Lengths and sizes -/
theorem last_px (u : ByteArray) : autoB (u ++ ⟨#[112, 120]⟩) = false ∧ pcB (u ++ ⟨#[112, 120]⟩) = false := by
  have e : (u ++ ⟨#[112, 120]⟩).toList = u.data.toList ++ [112, 120] := by rw [ByteArray.toList_eq]; simp
  constructor
  · unfold autoB
    rw [e]
    refine beq_false_of_ne fun h => ?_
    have := congrArg List.getLast? h
    simp at this
  · unfold pcB
    have e2 : ((u ++ ⟨#[112, 120]⟩).extract ((u ++ ⟨#[112, 120]⟩).size - 1) (u ++ ⟨#[112, 120]⟩).size).toList = [120] := by
      have h1 : u ++ ⟨#[112, 120]⟩ = (u ++ ⟨#[112]⟩) ++ ⟨#[120]⟩ := by apply ByteArray.ext; apply Array.toList_inj.1; simp
      have h2 : (u ++ ⟨#[112, 120]⟩).size - 1 = (u ++ ⟨#[112]⟩).size := by simp only [ByteArray.size_append]; rfl
      rw [h2, h1, rear, ByteArray.toList_eq]
    rw [e2]
    simp
theorem pix_reads {n : Int} (h : pixB n = true) : szOk (pixText n) = true ∧ szVal (pixText n) = ⟨false, false, n⟩ := by
  obtain ⟨r1, r2⟩ := comes_back n h
  have et : pixText n = (signText n ++ num (n.natAbs / 64) ++ quarter (n.natAbs % 64 / 16)) ++ ⟨#[112, 120]⟩ := by simp [pixText, h]
  obtain ⟨l1, l2⟩ := last_px (signText n ++ num (n.natAbs / 64) ++ quarter (n.natAbs % 64 / 16))
  rw [← et] at l1 l2
  have h3 : pctFitB (pixText n) = false := by unfold pctFitB; rw [l2, Bool.false_and]
  unfold szOk szVal
  rw [l1, h3, r1, r2]
  exact ⟨rfl, rfl⟩

theorem pct_reads {n : Int} (h0 : n.tmod 100 = 0) (g0 : -100000 ≤ n) (g1 : n ≤ 100000) : szOk (numI (n.tdiv 100) ++ ⟨#[37]⟩) = true ∧ szVal (numI (n.tdiv 100) ++ ⟨#[37]⟩) = ⟨false, true, n⟩ := by
  have hq : 100 * n.tdiv 100 + n.tmod 100 = n := Int.mul_tdiv_add_tmod n 100
  rw [h0] at hq
  generalize n.tdiv 100 = q at hq
  have eT : (numI q ++ ⟨#[37]⟩).toList = (numI q).data.toList ++ [37] := by rw [ByteArray.toList_eq]; simp
  have hA : autoB (numI q ++ ⟨#[37]⟩) = false := by
    unfold autoB
    rw [eT]
    refine beq_false_of_ne fun h => ?_
    have := congrArg List.getLast? h
    simp at this
  have hsz : (numI q ++ ⟨#[37]⟩).size - 1 = (numI q).size := by rw [ByteArray.size_append]; rfl
  have hP : pcB (numI q ++ ⟨#[37]⟩) = true := by
    unfold pcB
    rw [hsz, rear, ByteArray.size_append]
    have : 1 ≤ (numI q).size + (⟨#[37]⟩ : ByteArray).size := by show 1 ≤ _ + 1; omega
    rw [decide_eq_true this, ByteArray.toList_eq]
    rfl
  have hR : pcR (numI q ++ ⟨#[37]⟩) = numI q := by unfold pcR; rw [hP, if_pos rfl, hsz]; exact front _ _
  have key : ∃ u : Nat, u ≤ 1000 ∧ bodyOf (numI q) = num u ∧ (if negB (numI q) then -((u : Int) * 100) else (u : Int) * 100) = n := by
    by_cases hneg : q < 0
    · obtain ⟨u, hu⟩ : ∃ u : Nat, q = -(u : Int) := ⟨q.natAbs, by omega⟩
      subst hu
      rw [numI_neg u (by omega)]
      obtain ⟨n1, n2⟩ := neg_reads (num u)
      exact ⟨u, by omega, n2, by rw [n1, if_pos rfl]; omega⟩
    · obtain ⟨u, hu⟩ : ∃ u : Nat, q = (u : Int) := ⟨q.toNat, by omega⟩
      subst hu
      rw [numI_pos]
      have e : num u = num u ++ ⟨#[]⟩ := by apply ByteArray.ext; simp
      obtain ⟨n1, n2⟩ := pos_reads u ⟨#[]⟩
      rw [← e] at n1 n2
      exact ⟨u, by omega, n2, by rw [n1, if_neg (by decide)]; omega⟩
  obtain ⟨u, hu, hb, hn⟩ := key
  have hd : digsB (num u) 4 = true := by
    have h4 := (l1Num_pow 3 u (by omega) (by omega)).1
    exact digsB_good (num_pos u) (by omega) (num_dig u)
  have hv : val (num u).data.toList = (u : Int) := by rw [num_list]; exact dec_val u
  have hF : pctFitB (numI q ++ ⟨#[37]⟩) = true := by unfold pctFitB; rw [hP, hR, hb, hd]; rfl
  have hV : pctVal (numI q ++ ⟨#[37]⟩) = (u : Int) * 100 := by unfold pctVal; rw [hR, hb, hv]
  have hO : pctOk (numI q ++ ⟨#[37]⟩) = true := by unfold pctOk; rw [hF, hV, Bool.true_and]; exact decide_eq_true (by omega)
  have hS : pctSgn (numI q ++ ⟨#[37]⟩) = n := by unfold pctSgn; rw [hR, hV]; exact hn
  unfold szOk szVal
  rw [hA, hF, hO, hS]
  exact ⟨rfl, rfl⟩
theorem told_reads {a p : Bool} {n : Int} (h : szB a p n = true) (ht : toldB a p n = true) : szOk (toldT a p n) = true ∧ szVal (toldT a p n) = ⟨a, p, n⟩ := by
  cases a
  · cases p
    · exact pix_reads ht
    · have h1 : inB (-100000) 100000 n = true := h
      have h2 := inB_yes h1
      exact pct_reads (of_decide_eq_true ht) h2.1 h2.2
  · have h1 : (!p && decide (n = 0)) = true := h
    rw [Bool.and_eq_true] at h1
    have hp : p = false := by simpa using h1.1
    have hn := of_decide_eq_true h1.2
    subst hp hn
    have hA : autoB (toldT true false 0) = true := by
      show autoB ⟨#[97, 117, 116, 111]⟩ = true
      unfold autoB
      rw [ByteArray.toList_eq]
      rfl
    unfold szOk szVal
    rw [hA]
    exact ⟨rfl, rfl⟩
end Go.Proofs.YtddnphgpdnedbaaGreatDoor

namespace Go.Proofs.YtddnphgpdnedbaaGreatDoor
open Go.ChangeShapes Go.WideShapes Go.ChangeAt Go.RowKit
set_option linter.unusedVariables false

theorem okTo_at {X : St} (h : okTo X 18 = true) {k : Nat} (hk : k < 18) : (sameB X k || tokB X k) = true := by
  unfold okTo at h
  rw [List.all_eq_true] at h
  exact h k (List.mem_range.2 hk)
theorem word_low (X : St) {k : Nat} (hk : k < 18) (hs : styleB X = true) (hw : isW k = true) : (tokT X k).size ≠ 0 := by
  have h := hs
  unfold styleB gA gB gC gD gE at h
  simp only [Bool.and_eq_true] at h
  have r_sh := inB_yes h.1.1.1.1.1.1.1.1
  have r_fl := inB_yes h.1.1.1.1.1.1.1.2
  have r_cl := inB_yes h.1.1.1.1.1.1.2
  have r_wh := inB_yes h.1.1.1.1.1.2
  have r_al := inB_yes h.1.1.1.1.2
  clear h hs
  rcases lt18 hk with rfl | rfl | rfl | rfl | rfl | rfl | rfl | rfl | rfl | rfl | rfl | rfl | rfl | rfl | rfl | rfl | rfl | rfl
  case inl =>
    have e : X.sh = 1 ∨ X.sh = 2 ∨ X.sh = 3 := by omega
    rcases e with e | e | e <;> simp [tokT, e] <;> decide
  case inr.inl =>
    have e : X.fl = 0 ∨ X.fl = 1 ∨ X.fl = 2 := by omega
    rcases e with e | e | e <;> simp [tokT, e] <;> decide
  case inr.inr.inl =>
    have e : X.cl = 0 ∨ X.cl = 1 ∨ X.cl = 2 ∨ X.cl = 3 := by omega
    rcases e with e | e | e | e <;> simp [tokT, e] <;> decide
  case inr.inr.inr.inr.inr.inr.inr.inr.inr.inr.inr.inr.inr.inl =>
    have e : X.wh = 1 ∨ X.wh = 2 ∨ X.wh = 3 ∨ X.wh = 4 ∨ X.wh = 5 := by omega
    rcases e with e | e | e | e | e <;> simp [tokT, e] <;> decide
  case inr.inr.inr.inr.inr.inr.inr.inr.inr.inr.inr.inr.inr.inr.inl =>
    have e : X.al = 1 ∨ X.al = 2 ∨ X.al = 3 := by omega
    rcases e with e | e | e <;> simp [tokT, e] <;> decide
  all_goals exact absurd hw (by decide)
theorem tokB_plain (X : St) {k : Nat} (hk : k < 18) (h : isW k = false) : tokB X k = toldB (getZ X k).a (getZ X k).p (getZ X k).n := by
  rcases lt18 hk with rfl | rfl | rfl | rfl | rfl | rfl | rfl | rfl | rfl | rfl | rfl | rfl | rfl | rfl | rfl | rfl | rfl | rfl <;> first | rfl | (exact absurd h (by decide))
theorem sz_good (X : St) {k : Nat} (hk : k < 18) (hs : styleB X = true) (hz : isZ k = true) : szB (getZ X k).a (getZ X k).p (getZ X k).n = true := by
  have h := hs
  unfold styleB gB at h
  simp only [Bool.and_eq_true] at h
  have z1 := h.1.1.1.2.1.1.1
  have z2 := h.1.1.1.2.1.1.2
  have z3 := h.1.1.1.2.1.2
  have z4 := h.1.1.1.2.2
  clear h hs
  rcases lt18 hk with rfl | rfl | rfl | rfl | rfl | rfl | rfl | rfl | rfl | rfl | rfl | rfl | rfl | rfl | rfl | rfl | rfl | rfl <;> first | exact z1 | exact z2 | exact z3 | exact z4 | (exact absurd hz (by decide))
theorem len_flat (X : St) {k : Nat} (hk : k < 18) (hw : isW k = false) (hz : isZ k = false) : getZ X k = ⟨false, false, (getZ X k).n⟩ := by
  rcases lt18 hk with rfl | rfl | rfl | rfl | rfl | rfl | rfl | rfl | rfl | rfl | rfl | rfl | rfl | rfl | rfl | rfl | rfl | rfl <;> first | rfl | (exact absurd hw (by decide)) | (exact absurd hz (by decide))
theorem getN_flat (X : St) {k : Nat} (hk : k < 18) (hw : isW k = false) : getN X k = 0 := by
  rcases lt18 hk with rfl | rfl | rfl | rfl | rfl | rfl | rfl | rfl | rfl | rfl | rfl | rfl | rfl | rfl | rfl | rfl | rfl | rfl <;> first | rfl | (exact absurd hw (by decide))
theorem getZ_word (X : St) {k : Nat} (hk : k < 18) (hw : isW k = true) : getZ X k = ⟨false, false, 0⟩ := by
  rcases lt18 hk with rfl | rfl | rfl | rfl | rfl | rfl | rfl | rfl | rfl | rfl | rfl | rfl | rfl | rfl | rfl | rfl | rfl | rfl <;> first | rfl | (exact absurd hw (by decide))
/-- A value that is told is read as what it was, and has no colon and no semicolon. -/
theorem tok_reads {X : St} (hX : txtB X = true) {k : Nat} (hk : k < 18) (h : sameB X k = false) : rdOk k (tokT X k) = true ∧ rdN k (tokT X k) = getN X k ∧ rdZ k (tokT X k) = getZ X k ∧ plainT (tokT X k) = true := by
  unfold txtB at hX
  rw [Bool.and_eq_true] at hX
  obtain ⟨v1, v2⟩ := isVW hk
  have htk : tokB X k = true := by
    have := okTo_at hX.2 hk
    rw [h, Bool.false_or] at this
    exact this
  cases hw : isW k
  · rw [hw] at v1
    have et := tokT_plain X hk hw
    rw [tokB_plain X hk hw] at htk
    unfold rdOk rdN rdZ
    rw [v1, et, getN_flat X hk hw]
    cases hz : isZ k
    · have ez := len_flat X hk hw hz
      rw [ez] at htk ⊢
      have hp : pixB (getZ X k).n = true := htk
      obtain ⟨r1, r2⟩ := comes_back _ hp
      have e1 : toldT false false (getZ X k).n = pixText (getZ X k).n := rfl
      simp only [e1, r1, r2, Bool.false_eq_true, if_false]
      exact ⟨trivial, trivial, trivial, plainT_pix _⟩
    · obtain ⟨r1, r2⟩ := told_reads (sz_good X hk hX.1 hz) htk
      simp only [r1, r2, Bool.false_eq_true, if_false, if_true]
      exact ⟨trivial, trivial, trivial, plainT_told _ _ _⟩
  · rw [hw] at v1
    obtain ⟨m, hm, hl, h6, ha⟩ := word_at X hk hX.1 hw
    have h0 := word_low X hk hX.1 hw
    have eg : (wl k).getD m ByteArray.empty = tokT X k := by rw [List.getD_eq_getElem?_getD, ha]; rfl
    rw [← eg] at h0
    obtain ⟨w1, w2⟩ := words_read hk hw (by omega) hl h0
    rw [eg] at w1 w2
    unfold rdOk rdN rdZ
    rw [v1, v2 hw, w1, getZ_word X hk hw, hm]
    exact ⟨rfl, rfl, rfl, w2⟩
theorem ghost (s : ByteArray) : GhostSteps s where
  zero := fun X hX => ⟨by rw [rest_zero, hX.2], rfl⟩
  unsaid := fun {k Y t} hk hg hf X hX => by
    obtain ⟨h1, h2⟩ := hg X hX
    cases hsm : sameB X k
    · have hn := (plainT_ne (tok_reads hX.1 hk hsm).2.2.2).1
      have := (front_yes hk hsm hn).1
      rw [← h1, hf] at this
      cases this
    · exact ⟨h1.trans (rest_same hk hsm), h2.trans (mix_same hk hsm).symm⟩
  bad := fun {k Y t} hk hg hf hr ⟨X, hX⟩ => by
    obtain ⟨h1, h2⟩ := hg X hX
    cases hsm : sameB X k
    · obtain ⟨r1, _, _, r4⟩ := tok_reads hX.1 hk hsm
      obtain ⟨_, f2, _⟩ := front_yes hk hsm (plainT_ne r4).1
      rw [h1, f2, r1] at hr
      cases hr
    · have := front_not hk hsm
      rw [← h1, hf] at this
      cases this
  good := fun {k Y t} hk hg hf hr X hX => by
    obtain ⟨h1, h2⟩ := hg X hX
    cases hsm : sameB X k
    · obtain ⟨r1, r2, r3, r4⟩ := tok_reads hX.1 hk hsm
      obtain ⟨_, f2, f3⟩ := front_yes hk hsm (plainT_ne r4).1
      rw [h1, f2, f3, h2]
      refine ⟨rfl, ?_⟩
      unfold rdSt
      rw [r2, r3, mixT]
    · have := front_not hk hsm
      rw [← h1, hf] at this
      cases this
  last := fun {Y t} hg X hX => by
    obtain ⟨_, h2⟩ := hg X hX
    rw [mix_all] at h2
    exact h2.symm
end Go.Proofs.YtddnphgpdnedbaaGreatDoor
