/-
  The ghost of the reading, as plain lemmas: pieces, cuts, names.
  The ghost of the reading: what the values of a style's text are read as.
  The ghost of the reading: its steps, for the program.
-/
import Derived.Test.YtdgagjnkbmckoaaGreatDoorRdR
import Derived.Test.YtdgagjnkbmckoaaGreatDoorRound2
import Derived.Test.YtdgagjnkbmckoaaGreatDoorTxtK
namespace Go.Proofs.YtdgagjnkbmckoaaGreatDoor
open Go.ChangeShapes Go.WideShapes Go.ChangeAt Go.RowKit
set_option linter.unusedVariables false

theorem rest_same {X : St} {k : Nat} (hk : k < 18) (h : sameB X k = true) : restT X k = restT X (k + 1) := by
  unfold restT
  rw [show 18 - k = (18 - (k + 1)) + 1 by omega, restN, if_pos h]
theorem rest_diff {X : St} {k : Nat} (hk : k < 18) (h : sameB X k = false) : restT X k = pieceT X k ++ restT X (k + 1) := by
  unfold restT
  rw [show 18 - k = (18 - (k + 1)) + 1 by omega, restN, if_neg (by simp [h])]
theorem rest_all (X : St) : ∀ (n k : Nat), textTo X k ++ restN X n k = textTo X (k + n)
  | 0, k => by
    rw [restN, Nat.add_zero]
    apply ByteArray.ext
    simp
  | n + 1, k => by
    rw [restN, show k + (n + 1) = (k + 1) + n by omega, ← rest_all X n (k + 1)]
    cases h : sameB X k
    · rw [if_neg (by decide), textTo_next h, ByteArray.append_assoc]
    · rw [if_pos rfl, textTo_same h]
theorem rest_zero (X : St) : restT X 0 = textTo X 18 := by
  have h := rest_all X 18 0
  rw [Nat.zero_add] at h
  rw [← h]
  show _ = (⟨#[]⟩ : ByteArray) ++ _
  apply ByteArray.ext
  simp [restT]
theorem mix_all (X : St) : mixT X 18 = X := by
  obtain ⟨a, b, c, ⟨d1, d2, d3⟩, ⟨e1, e2, e3⟩, f, g, h, ⟨i1, i2, i3⟩, j, ⟨k1, k2, k3⟩, l, m, n, o, p, q, r⟩ := X
  rfl
theorem mix_plain (X : St) {k : Nat} (hk : k < 18) : setT (mixT X k) k (getN plainS k) (getZ plainS k) = mixT X k := by
  obtain ⟨a, b, c, ⟨d1, d2, d3⟩, ⟨e1, e2, e3⟩, f, g, h, ⟨i1, i2, i3⟩, j, ⟨k1, k2, k3⟩, l, m, n, o, p, q, r⟩ := X
  rcases lt18 hk with rfl | rfl | rfl | rfl | rfl | rfl | rfl | rfl | rfl | rfl | rfl | rfl | rfl | rfl | rfl | rfl | rfl | rfl <;> kernel_rfl
theorem mix_same {X : St} {k : Nat} (hk : k < 18) (h : sameB X k = true) : mixT X (k + 1) = mixT X k := by
  rw [sameB_eq X hk, Bool.and_eq_true] at h
  have h1 := of_decide_eq_true h.1
  have h2 := of_decide_eq_true h.2
  have h3 : getZ X k = getZ plainS k := by
    cases hX : getZ X k
    cases hP : getZ plainS k
    rw [hX, hP] at h2
    obtain ⟨q1, q2, q3⟩ := h2
    simp only at q1 q2 q3
    rw [q1, q2, q3]
  rw [mixT, h1, h3]
  exact mix_plain X hk

/-! ### A name with its colon at the front -/
theorem pre_app (u v : ByteArray) : preB (u ++ v) u = true ∧ preR (u ++ v) u = v := by
  have e : preB (u ++ v) u = true := by
    unfold preB
    rw [front, ByteArray.size_append]
    simp
  exact ⟨e, by unfold preR; rw [e, if_pos rfl]; exact rear u v⟩
theorem pre_empty (k : Nat) : preB ⟨#[]⟩ (nmC k) = false := by
  unfold preB
  have : ¬ (nmC k).size ≤ (⟨#[]⟩ : ByteArray).size := by
    unfold nmC
    rw [ByteArray.size_append]
    show ¬ _ + 1 ≤ 0
    omega
  simp [this]
theorem names_part : ∀ k, k < 18 → ∀ j, j < 18 → k ≠ j → ∃ p, p < (nmC k).data.toList.length ∧ p < (nmC j).data.toList.length ∧ (nmC k).data.toList[p]? ≠ (nmC j).data.toList[p]? := by
  decide +kernel
theorem pre_other {k j : Nat} (hk : k < 18) (hj : j < 18) (hne : k ≠ j) (r : ByteArray) : preB (nmC j ++ r) (nmC k) = false := by
  obtain ⟨p, p1, p2, p3⟩ := names_part k hk j hj hne
  cases h : preB (nmC j ++ r) (nmC k)
  · rfl
  · unfold preB at h
    rw [Bool.and_eq_true] at h
    have h2 := beq_iff_eq.1 h.2
    rw [ByteArray.toList_eq, ByteArray.toList_eq] at h2
    have e : ((nmC j ++ r).extract 0 (nmC k).size).data.toList = ((nmC j).data.toList ++ r.data.toList).take (nmC k).size := by simp [List.take_append]
    rw [e] at h2
    have h3 := congrArg (·[p]?) h2
    simp only [List.getElem?_take] at h3
    have p1' : p < (nmC k).size := by simpa using p1
    rw [if_pos p1', List.getElem?_append_left p2] at h3
    exact absurd h3.symm p3
theorem rest_front (X : St) : ∀ (n k : Nat), k + n = 18 → restN X n k = ⟨#[]⟩ ∨ ∃ j r, k ≤ j ∧ j < 18 ∧ restN X n k = nmC j ++ r
  | 0, k, _ => .inl rfl
  | n + 1, k, h => by
    rw [restN]
    split
    · rcases rest_front X n (k + 1) (by omega) with e | ⟨j, r, h1, h2, e⟩
      · exact .inl e
      · exact .inr ⟨j, r, by omega, h2, e⟩
    · refine .inr ⟨k, tokT X k ++ ⟨#[59]⟩ ++ restN X n (k + 1), Nat.le_refl _, by omega, ?_⟩
      unfold pieceT nmC
      simp only [ByteArray.append_assoc]
theorem front_not {X : St} {k : Nat} (hk : k < 18) (h : sameB X k = true) : frB k (restT X k) = false := by
  rw [rest_same hk h]
  unfold frB
  have e : preB (restT X (k + 1)) (nmC k) = false := by
    rcases rest_front X (18 - (k + 1)) (k + 1) (by omega) with e | ⟨j, r, h1, h2, e⟩
    · unfold restT
      rw [e]
      exact pre_empty k
    · unfold restT
      rw [e]
      exact pre_other hk h2 (by omega) r
  rw [e, Bool.false_and]

/-! ### Cut at a sign -/
theorem idx_sign (c : UInt8) : ∀ (l r : List UInt8), (∀ x ∈ l, x ≠ c) → Lib.indexByte (l ++ c :: r) c = l.length
  | [], r, _ => by simp [Lib.indexByte]
  | d :: l, r, h => by
    have hne : (d == c) = false := by simpa using h d (by simp)
    have ih := idx_sign c l r (fun x hx => h x (by simp [hx]))
    rw [List.cons_append, Lib.indexByte, hne, ih]
    have : (((l.length : Nat) : Int) == -1) = false := by simp
    rw [this]
    simp
theorem s_cut_at (u v : ByteArray) (h : ∀ x ∈ u.data.toList, x ≠ 59) : s_dotB (u ++ (⟨#[59]⟩ ++ v)) = true ∧ s_wholeOf (u ++ (⟨#[59]⟩ ++ v)) = u ∧ s_partOf (u ++ (⟨#[59]⟩ ++ v)) = v := by
  have hx : Lib.indexByte (u ++ (⟨#[59]⟩ ++ v)).data.toList 59 = (u.size : Nat) := by
    have e : (u ++ (⟨#[59]⟩ ++ v)).data.toList = u.data.toList ++ 59 :: v.data.toList := by simp
    rw [e, idx_sign 59 _ _ h]
    simp
  obtain ⟨h1, h2, h3⟩ := s_cutOf_hit hx
  refine ⟨h1, h2.trans (front _ _), h3.trans ?_⟩
  have e : u ++ (⟨#[59]⟩ ++ v) = (u ++ ⟨#[59]⟩) ++ v := by rw [ByteArray.append_assoc]
  have es : u.size + 1 = (u ++ ⟨#[59]⟩).size := by rw [ByteArray.size_append]; rfl
  rw [e, es]
  exact rear _ _
theorem front_yes {X : St} {k : Nat} (hk : k < 18) (h : sameB X k = false) (hn : ∀ x ∈ (tokT X k).data.toList, x ≠ 59) : frB k (restT X k) = true ∧ frV k (restT X k) = tokT X k ∧ frR k (restT X k) = restT X (k + 1) := by
  have e : restT X k = nmC k ++ (tokT X k ++ (⟨#[59]⟩ ++ restT X (k + 1))) := by
    rw [rest_diff hk h]
    unfold pieceT nmC
    simp only [ByteArray.append_assoc]
  obtain ⟨p1, p2⟩ := pre_app (nmC k) (tokT X k ++ (⟨#[59]⟩ ++ restT X (k + 1)))
  obtain ⟨c1, c2, c3⟩ := s_cut_at (tokT X k) (restT X (k + 1)) hn
  unfold frB frV frR
  rw [e, p1, p2, c1, c2, c3]
  exact ⟨rfl, rfl, rfl⟩
end Go.Proofs.YtdgagjnkbmckoaaGreatDoor

namespace Go.Proofs.YtdgagjnkbmckoaaGreatDoor
open Go.ChangeShapes Go.WideShapes Go.ChangeAt Go.RowKit
set_option linter.unusedVariables false

/-- A sign that is neither a colon nor a semicolon. -/
def plainC (c : UInt8) : Bool := decide (c ≠ 58) && decide (c ≠ 59)
def plainT (t : ByteArray) : Bool := t.data.toList.all plainC
theorem plainT_app (u v : ByteArray) : plainT (u ++ v) = (plainT u && plainT v) := by simp [plainT]
theorem plainT_num (q : Nat) : plainT (num q) = true := by
  unfold plainT
  rw [num_list, List.all_eq_true]
  intro c hc
  have h := dec_all q c hc
  unfold plainC
  rw [Bool.and_eq_true]
  refine ⟨decide_eq_true fun e => ?_, decide_eq_true fun e => ?_⟩ <;> (subst e; exact absurd h.2 (by decide))
theorem plainT_ne {t : ByteArray} (h : plainT t = true) : (∀ x ∈ t.data.toList, x ≠ 59) ∧ ∀ x ∈ t.data.toList, x ≠ 58 := by
  unfold plainT at h
  rw [List.all_eq_true] at h
  refine ⟨fun x hx => ?_, fun x hx => ?_⟩
  · have := h x hx
    unfold plainC at this
    rw [Bool.and_eq_true] at this
    exact of_decide_eq_true this.2
  · have := h x hx
    unfold plainC at this
    rw [Bool.and_eq_true] at this
    exact of_decide_eq_true this.1
theorem plainT_pix (n : Int) : plainT (pixText n) = true := by
  unfold pixText
  split
  · rw [plainT_app, plainT_app, plainT_app, plainT_num]
    have h1 : plainT (signText n) = true := by unfold signText; split <;> decide
    have h2 : ∀ j, plainT (quarter j) = true := fun j => by unfold quarter; split <;> decide
    rw [h1, h2]
    decide
  · decide
theorem plainT_numI (q : Int) : plainT (numI q) = true := by
  by_cases h : q < 0
  · obtain ⟨u, hu⟩ : ∃ u : Nat, q = -(u : Int) := ⟨q.natAbs, by omega⟩
    subst hu
    rw [numI_neg u (by omega), plainT_app, plainT_num]
    decide
  · obtain ⟨u, hu⟩ : ∃ u : Nat, q = (u : Int) := ⟨q.toNat, by omega⟩
    subst hu
    rw [numI_pos]
    exact plainT_num u
theorem plainT_told (a p : Bool) (n : Int) : plainT (toldT a p n) = true := by
  unfold toldT
  split
  · decide
  · split
    · rw [plainT_app, plainT_numI]; decide
    · exact plainT_pix n

/-! ### Words -/
def wOk (k m : Nat) : Bool := !isW k || decide ((wl k).length ≤ m) || decide (((wl k).getD m ByteArray.empty).size = 0) || ((getW (wm k) ((wl k).getD m ByteArray.empty) == some (m : Int)) && plainT ((wl k).getD m ByteArray.empty))
theorem wOk_all : ((List.range 18).all fun k => (List.range 6).all (wOk k)) = true := by decide +kernel
theorem words_read {k m : Nat} (hk : k < 18) (hw : isW k = true) (h6 : m < 6) (hm : m < (wl k).length) (h0 : ((wl k).getD m ByteArray.empty).size ≠ 0) : getW (wm k) ((wl k).getD m ByteArray.empty) = some (m : Int) ∧ plainT ((wl k).getD m ByteArray.empty) = true := by
  have h := wOk_all
  rw [List.all_eq_true] at h
  have h1 := h k (List.mem_range.2 hk)
  rw [List.all_eq_true] at h1
  have h2 := h1 m (List.mem_range.2 h6)
  unfold wOk at h2
  rw [hw, decide_eq_false (by omega), decide_eq_false h0] at h2
  simp only [Bool.not_true, Bool.false_or, Bool.and_eq_true] at h2
  exact ⟨by simpa using h2.1, h2.2⟩
theorem isVW {k : Nat} (hk : k < 18) : isV k = isW k ∧ (isW k = true → isZ k = false) := by
  rcases lt18 hk with rfl | rfl | rfl | rfl | rfl | rfl | rfl | rfl | rfl | rfl | rfl | rfl | rfl | rfl | rfl | rfl | rfl | rfl <;> exact ⟨rfl, fun _ => by first | rfl | contradiction⟩
/-! ### Lengths and sizes -/
theorem last_px (u : ByteArray) : autoB (u ++ ⟨#[112, 120]⟩) = false ∧ pcB (u ++ ⟨#[112, 120]⟩) = false := by
  have e : (u ++ ⟨#[112, 120]⟩).toList = u.data.toList ++ [112, 120] := by rw [ByteArray.toList_eq]; simp
  constructor
  · unfold autoB
    rw [e]
    refine beq_false_of_ne fun h => ?_
    have := congrArg List.getLast? h
    simp at this
  · unfold pcB
    have e2 : ((u ++ ⟨#[112, 120]⟩).extract ((u ++ ⟨#[112, 120]⟩).size - 1) (u ++ ⟨#[112, 120]⟩).size).toList = [120] := by
      have h1 : u ++ ⟨#[112, 120]⟩ = (u ++ ⟨#[112]⟩) ++ ⟨#[120]⟩ := by apply ByteArray.ext; apply Array.toList_inj.1; simp
      have h2 : (u ++ ⟨#[112, 120]⟩).size - 1 = (u ++ ⟨#[112]⟩).size := by simp only [ByteArray.size_append]; rfl
      rw [h2, h1, rear, ByteArray.toList_eq]
    rw [e2]
    simp
theorem pix_reads {n : Int} (h : pixB n = true) : szOk (pixText n) = true ∧ szVal (pixText n) = ⟨false, false, n⟩ := by
  obtain ⟨r1, r2⟩ := comes_back n h
  have et : pixText n = (signText n ++ num (n.natAbs / 64) ++ quarter (n.natAbs % 64 / 16)) ++ ⟨#[112, 120]⟩ := by simp [pixText, h]
  obtain ⟨l1, l2⟩ := last_px (signText n ++ num (n.natAbs / 64) ++ quarter (n.natAbs % 64 / 16))
  rw [← et] at l1 l2
  have h3 : pctFitB (pixText n) = false := by unfold pctFitB; rw [l2, Bool.false_and]
  unfold szOk szVal
  rw [l1, h3, r1, r2]
  exact ⟨rfl, rfl⟩

theorem pct_reads {n : Int} (h0 : n.tmod 100 = 0) (g0 : -100000 ≤ n) (g1 : n ≤ 100000) : szOk (numI (n.tdiv 100) ++ ⟨#[37]⟩) = true ∧ szVal (numI (n.tdiv 100) ++ ⟨#[37]⟩) = ⟨false, true, n⟩ := by
  have hq : 100 * n.tdiv 100 + n.tmod 100 = n := Int.mul_tdiv_add_tmod n 100
  rw [h0] at hq
  generalize n.tdiv 100 = q at hq
  have eT : (numI q ++ ⟨#[37]⟩).toList = (numI q).data.toList ++ [37] := by rw [ByteArray.toList_eq]; simp
  have hA : autoB (numI q ++ ⟨#[37]⟩) = false := by
    unfold autoB
    rw [eT]
    refine beq_false_of_ne fun h => ?_
    have := congrArg List.getLast? h
    simp at this
  have hsz : (numI q ++ ⟨#[37]⟩).size - 1 = (numI q).size := by rw [ByteArray.size_append]; rfl
  have hP : pcB (numI q ++ ⟨#[37]⟩) = true := by
    unfold pcB
    rw [hsz, rear, ByteArray.size_append]
    have : 1 ≤ (numI q).size + (⟨#[37]⟩ : ByteArray).size := by show 1 ≤ _ + 1; omega
    rw [decide_eq_true this, ByteArray.toList_eq]
    rfl
  have hR : pcR (numI q ++ ⟨#[37]⟩) = numI q := by unfold pcR; rw [hP, if_pos rfl, hsz]; exact front _ _
  have key : ∃ u : Nat, u ≤ 1000 ∧ bodyOf (numI q) = num u ∧ (if negB (numI q) then -((u : Int) * 100) else (u : Int) * 100) = n := by
    by_cases hneg : q < 0
    · obtain ⟨u, hu⟩ : ∃ u : Nat, q = -(u : Int) := ⟨q.natAbs, by omega⟩
      subst hu
      rw [numI_neg u (by omega)]
      obtain ⟨n1, n2⟩ := neg_reads (num u)
      exact ⟨u, by omega, n2, by rw [n1, if_pos rfl]; omega⟩
    · obtain ⟨u, hu⟩ : ∃ u : Nat, q = (u : Int) := ⟨q.toNat, by omega⟩
      subst hu
      rw [numI_pos]
      have e : num u = num u ++ ⟨#[]⟩ := by apply ByteArray.ext; simp
      obtain ⟨n1, n2⟩ := pos_reads u ⟨#[]⟩
      rw [← e] at n1 n2
      exact ⟨u, by omega, n2, by rw [n1, if_neg (by decide)]; omega⟩
  obtain ⟨u, hu, hb, hn⟩ := key
  have hd : digsB (num u) 4 = true := by
    have h4 := (l1Num_pow 3 u (by omega) (by omega)).1
    exact digsB_good (num_pos u) (by omega) (num_dig u)
  have hv : val (num u).data.toList = (u : Int) := by rw [num_list]; exact dec_val u
  have hF : pctFitB (numI q ++ ⟨#[37]⟩) = true := by unfold pctFitB; rw [hP, hR, hb, hd]; rfl
  have hV : pctVal (numI q ++ ⟨#[37]⟩) = (u : Int) * 100 := by unfold pctVal; rw [hR, hb, hv]
  have hO : pctOk (numI q ++ ⟨#[37]⟩) = true := by unfold pctOk; rw [hF, hV, Bool.true_and]; exact decide_eq_true (by omega)
  have hS : pctSgn (numI q ++ ⟨#[37]⟩) = n := by unfold pctSgn; rw [hR, hV]; exact hn
  unfold szOk szVal
  rw [hA, hF, hO, hS]
  exact ⟨rfl, rfl⟩
theorem told_reads {a p : Bool} {n : Int} (h : szB a p n = true) (ht : toldB a p n = true) : szOk (toldT a p n) = true ∧ szVal (toldT a p n) = ⟨a, p, n⟩ := by
  cases a
  · cases p
    · exact pix_reads ht
    · have h1 : inB (-100000) 100000 n = true := h
      have h2 := inB_yes h1
      exact pct_reads (of_decide_eq_true ht) h2.1 h2.2
  · have h1 : (!p && decide (n = 0)) = true := h
    rw [Bool.and_eq_true] at h1
    have hp : p = false := by simpa using h1.1
    have hn := of_decide_eq_true h1.2
    subst hp hn
    have hA : autoB (toldT true false 0) = true := by
      show autoB ⟨#[97, 117, 116, 111]⟩ = true
      unfold autoB
      rw [ByteArray.toList_eq]
      rfl
    unfold szOk szVal
    rw [hA]
    exact ⟨rfl, rfl⟩
end Go.Proofs.YtdgagjnkbmckoaaGreatDoor

namespace Go.Proofs.YtdgagjnkbmckoaaGreatDoor
open Go.ChangeShapes Go.WideShapes Go.ChangeAt Go.RowKit
set_option linter.unusedVariables false

theorem okTo_at {X : St} (h : okTo X 18 = true) {k : Nat} (hk : k < 18) : (sameB X k || tokB X k) = true := by
  unfold okTo at h
  rw [List.all_eq_true] at h
  exact h k (List.mem_range.2 hk)
theorem word_low (X : St) {k : Nat} (hk : k < 18) (hs : styleB X = true) (hw : isW k = true) : (tokT X k).size ≠ 0 := by
  have h := hs
  unfold styleB gA gB gC gD gE at h
  simp only [Bool.and_eq_true] at h
  have r_sh := inB_yes h.1.1.1.1.1.1.1.1
  have r_fl := inB_yes h.1.1.1.1.1.1.1.2
  have r_cl := inB_yes h.1.1.1.1.1.1.2
  have r_wh := inB_yes h.1.1.1.1.1.2
  have r_al := inB_yes h.1.1.1.1.2
  clear h hs
  rcases lt18 hk with rfl | rfl | rfl | rfl | rfl | rfl | rfl | rfl | rfl | rfl | rfl | rfl | rfl | rfl | rfl | rfl | rfl | rfl
  case inl =>
    have e : X.sh = 1 ∨ X.sh = 2 ∨ X.sh = 3 := by omega
    rcases e with e | e | e <;> simp [tokT, e] <;> decide
  case inr.inl =>
    have e : X.fl = 0 ∨ X.fl = 1 ∨ X.fl = 2 := by omega
    rcases e with e | e | e <;> simp [tokT, e] <;> decide
  case inr.inr.inl =>
    have e : X.cl = 0 ∨ X.cl = 1 ∨ X.cl = 2 ∨ X.cl = 3 := by omega
    rcases e with e | e | e | e <;> simp [tokT, e] <;> decide
  case inr.inr.inr.inr.inr.inr.inr.inr.inr.inr.inr.inr.inr.inl =>
    have e : X.wh = 1 ∨ X.wh = 2 ∨ X.wh = 3 ∨ X.wh = 4 ∨ X.wh = 5 := by omega
    rcases e with e | e | e | e | e <;> simp [tokT, e] <;> decide
  case inr.inr.inr.inr.inr.inr.inr.inr.inr.inr.inr.inr.inr.inr.inl =>
    have e : X.al = 1 ∨ X.al = 2 ∨ X.al = 3 := by omega
    rcases e with e | e | e <;> simp [tokT, e] <;> decide
  all_goals exact absurd hw (by decide)
theorem tokB_plain (X : St) {k : Nat} (hk : k < 18) (h : isW k = false) : tokB X k = toldB (getZ X k).a (getZ X k).p (getZ X k).n := by
  rcases lt18 hk with rfl | rfl | rfl | rfl | rfl | rfl | rfl | rfl | rfl | rfl | rfl | rfl | rfl | rfl | rfl | rfl | rfl | rfl <;> first | rfl | (exact absurd h (by decide))
theorem sz_good (X : St) {k : Nat} (hk : k < 18) (hs : styleB X = true) (hz : isZ k = true) : szB (getZ X k).a (getZ X k).p (getZ X k).n = true := by
  have h := hs
  unfold styleB gB at h
  simp only [Bool.and_eq_true] at h
  have z1 := h.1.1.1.2.1.1.1
  have z2 := h.1.1.1.2.1.1.2
  have z3 := h.1.1.1.2.1.2
  have z4 := h.1.1.1.2.2
  clear h hs
  rcases lt18 hk with rfl | rfl | rfl | rfl | rfl | rfl | rfl | rfl | rfl | rfl | rfl | rfl | rfl | rfl | rfl | rfl | rfl | rfl <;> first | exact z1 | exact z2 | exact z3 | exact z4 | (exact absurd hz (by decide))
theorem len_flat (X : St) {k : Nat} (hk : k < 18) (hw : isW k = false) (hz : isZ k = false) : getZ X k = ⟨false, false, (getZ X k).n⟩ := by
  rcases lt18 hk with rfl | rfl | rfl | rfl | rfl | rfl | rfl | rfl | rfl | rfl | rfl | rfl | rfl | rfl | rfl | rfl | rfl | rfl <;> first | rfl | (exact absurd hw (by decide)) | (exact absurd hz (by decide))
theorem getN_flat (X : St) {k : Nat} (hk : k < 18) (hw : isW k = false) : getN X k = 0 := by
  rcases lt18 hk with rfl | rfl | rfl | rfl | rfl | rfl | rfl | rfl | rfl | rfl | rfl | rfl | rfl | rfl | rfl | rfl | rfl | rfl <;> first | rfl | (exact absurd hw (by decide))
theorem getZ_word (X : St) {k : Nat} (hk : k < 18) (hw : isW k = true) : getZ X k = ⟨false, false, 0⟩ := by
  rcases lt18 hk with rfl | rfl | rfl | rfl | rfl | rfl | rfl | rfl | rfl | rfl | rfl | rfl | rfl | rfl | rfl | rfl | rfl | rfl <;> first | rfl | (exact absurd hw (by decide))
/-- A value that is told is read as what it was, and has no colon and no semicolon. -/
theorem tok_reads {X : St} (hX : txtB X = true) {k : Nat} (hk : k < 18) (h : sameB X k = false) : rdOk k (tokT X k) = true ∧ rdN k (tokT X k) = getN X k ∧ rdZ k (tokT X k) = getZ X k ∧ plainT (tokT X k) = true := by
  unfold txtB at hX
  rw [Bool.and_eq_true] at hX
  obtain ⟨v1, v2⟩ := isVW hk
  have htk : tokB X k = true := by
    have := okTo_at hX.2 hk
    rw [h, Bool.false_or] at this
    exact this
  cases hw : isW k
  · rw [hw] at v1
    have et := tokT_plain X hk hw
    rw [tokB_plain X hk hw] at htk
    unfold rdOk rdN rdZ
    rw [v1, et, getN_flat X hk hw]
    cases hz : isZ k
    · have ez := len_flat X hk hw hz
      rw [ez] at htk ⊢
      have hp : pixB (getZ X k).n = true := htk
      obtain ⟨r1, r2⟩ := comes_back _ hp
      have e1 : toldT false false (getZ X k).n = pixText (getZ X k).n := rfl
      simp only [e1, r1, r2, Bool.false_eq_true, if_false]
      exact ⟨trivial, trivial, trivial, plainT_pix _⟩
    · obtain ⟨r1, r2⟩ := told_reads (sz_good X hk hX.1 hz) htk
      simp only [r1, r2, Bool.false_eq_true, if_false, if_true]
      exact ⟨trivial, trivial, trivial, plainT_told _ _ _⟩
  · rw [hw] at v1
    obtain ⟨m, hm, hl, h6, ha⟩ := word_at X hk hX.1 hw
    have h0 := word_low X hk hX.1 hw
    have eg : (wl k).getD m ByteArray.empty = tokT X k := by rw [List.getD_eq_getElem?_getD, ha]; rfl
    rw [← eg] at h0
    obtain ⟨w1, w2⟩ := words_read hk hw (by omega) hl h0
    rw [eg] at w1 w2
    unfold rdOk rdN rdZ
    rw [v1, v2 hw, w1, getZ_word X hk hw, hm]
    exact ⟨rfl, rfl, rfl, w2⟩
theorem ghost (s : ByteArray) : GhostSteps s where
  zero := fun X hX => ⟨by rw [rest_zero, hX.2], rfl⟩
  unsaid := fun {k Y t} hk hg hf X hX => by
    obtain ⟨h1, h2⟩ := hg X hX
    cases hsm : sameB X k
    · have hn := (plainT_ne (tok_reads hX.1 hk hsm).2.2.2).1
      have := (front_yes hk hsm hn).1
      rw [← h1, hf] at this
      cases this
    · exact ⟨h1.trans (rest_same hk hsm), h2.trans (mix_same hk hsm).symm⟩
  bad := fun {k Y t} hk hg hf hr ⟨X, hX⟩ => by
    obtain ⟨h1, h2⟩ := hg X hX
    cases hsm : sameB X k
    · obtain ⟨r1, _, _, r4⟩ := tok_reads hX.1 hk hsm
      obtain ⟨_, f2, _⟩ := front_yes hk hsm (plainT_ne r4).1
      rw [h1, f2, r1] at hr
      cases hr
    · have := front_not hk hsm
      rw [← h1, hf] at this
      cases this
  good := fun {k Y t} hk hg hf hr X hX => by
    obtain ⟨h1, h2⟩ := hg X hX
    cases hsm : sameB X k
    · obtain ⟨r1, r2, r3, r4⟩ := tok_reads hX.1 hk hsm
      obtain ⟨_, f2, f3⟩ := front_yes hk hsm (plainT_ne r4).1
      rw [h1, f2, f3, h2]
      refine ⟨rfl, ?_⟩
      unfold rdSt
      rw [r2, r3, mixT]
    · have := front_not hk hsm
      rw [← h1, hf] at this
      cases this
  last := fun {Y t} hg X hX => by
    obtain ⟨_, h2⟩ := hg X hX
    rw [mix_all] at h2
    exact h2.symm
end Go.Proofs.YtdgagjnkbmckoaaGreatDoor
