/-
  The model's reading of one thing: what it answers at a value that is told, and that it answers at any.
-/
import Derived.Test.YtdgagjnkbmckoaaGreatDoorMdC
namespace Go.Proofs.YtdgagjnkbmckoaaGreatDoor
open Go.ChangeShapes Go.WideShapes Go.ChangeAt Go.RowKit
set_option linter.unusedVariables false

/-! ### Values that are told -/
theorem mv_pix {n : Int} (h : pixB n = true) : mvOk (pixText n) = true ∧ mvZ (pixText n) = ⟨false, false, n⟩ := by
  obtain ⟨r1, r2⟩ := comes_back n h
  have et : pixText n = (signText n ++ num (n.natAbs / 64) ++ quarter (n.natAbs % 64 / 16)) ++ ⟨#[112, 120]⟩ := by simp [pixText, h]
  obtain ⟨l1, l2⟩ := last_px (signText n ++ num (n.natAbs / 64) ++ quarter (n.natAbs % 64 / 16))
  rw [← et] at l1 l2
  have h3 : mvP (pixText n) = false := by unfold mvP; rw [l2, Bool.and_false]
  unfold mvOk mvZ
  rw [l1, h3, r1, r2]
  exact ⟨rfl, rfl⟩
theorem mv_pct {n : Int} (h0 : n.tmod 100 = 0) (g0 : -100000 ≤ n) (g1 : n ≤ 100000) : mvOk (numI (n.tdiv 100) ++ ⟨#[37]⟩) = true ∧ mvZ (numI (n.tdiv 100) ++ ⟨#[37]⟩) = ⟨false, true, n⟩ := by
  have hq : 100 * n.tdiv 100 + n.tmod 100 = n := Int.mul_tdiv_add_tmod n 100
  rw [h0] at hq
  generalize n.tdiv 100 = q at hq
  have eT : (numI q ++ ⟨#[37]⟩).toList = (numI q).data.toList ++ [37] := by rw [ByteArray.toList_eq]; simp
  have hA : autoB (numI q ++ ⟨#[37]⟩) = false := by
    unfold autoB
    rw [eT]
    refine beq_false_of_ne fun h => ?_
    have := congrArg List.getLast? h
    simp at this
  have hsz : (numI q ++ ⟨#[37]⟩).size - 1 = (numI q).size := by rw [ByteArray.size_append]; rfl
  have hP : pcB (numI q ++ ⟨#[37]⟩) = true := by
    unfold pcB
    rw [hsz, rear, ByteArray.size_append]
    have : 1 ≤ (numI q).size + (⟨#[37]⟩ : ByteArray).size := by show 1 ≤ _ + 1; omega
    rw [decide_eq_true this, ByteArray.toList_eq]
    rfl
  have hR : pcR (numI q ++ ⟨#[37]⟩) = numI q := by unfold pcR; rw [hP, if_pos rfl, hsz]; exact front _ _
  have key : ∃ u : Nat, u ≤ 1000 ∧ bodyOf (numI q) = num u ∧ (num u).size ≤ (numI q).size ∧ (if negB (numI q) then -(100 * (u : Int)) else 100 * (u : Int)) = n := by
    by_cases hneg : q < 0
    · obtain ⟨u, hu⟩ : ∃ u : Nat, q = -(u : Int) := ⟨q.natAbs, by omega⟩
      subst hu
      rw [numI_neg u (by omega)]
      obtain ⟨n1, n2⟩ := neg_reads (num u)
      exact ⟨u, by omega, n2, by rw [ByteArray.size_append]; omega, by rw [n1, if_pos rfl]; omega⟩
    · obtain ⟨u, hu⟩ : ∃ u : Nat, q = (u : Int) := ⟨q.toNat, by omega⟩
      subst hu
      rw [numI_pos]
      have e : num u = num u ++ ⟨#[]⟩ := by apply ByteArray.ext; simp
      obtain ⟨n1, n2⟩ := pos_reads u ⟨#[]⟩
      rw [← e] at n1 n2
      exact ⟨u, by omega, n2, Nat.le_refl _, by rw [n1, if_neg (by decide)]; omega⟩
  obtain ⟨u, hu, hb, hsu, hn⟩ := key
  have hd : digsB (num u) 5 = true := by
    have h4 := (l1Num_pow 3 u (by omega) (by omega)).1
    exact digsB_good (num_pos u) (by omega) (num_dig u)
  have hv : val (num u).data.toList = (u : Int) := by rw [num_list]; exact dec_val u
  obtain ⟨c1, c2, c3⟩ := cut_plain u
  have hF : fitB (bodyOf (numI q)) = true := by rw [hb]; unfold fitB; rw [c1, c2, hd]; rfl
  have hS : signedH (numI q) = n := by
    unfold signedH sumOf
    rw [hb, c2, c3, hv]
    have e0 : hund (⟨#[]⟩ : ByteArray) = 0 := rfl
    rw [e0, Int.add_zero]
    exact hn
  have hM : mvP (numI q ++ ⟨#[37]⟩) = true := by
    unfold mvP
    rw [hP, Bool.and_true]
    refine decide_eq_true ?_
    have := num_pos u
    rw [ByteArray.size_append]
    show 1 < _ + 1
    omega
  unfold mvOk mvZ
  rw [hA, hM, hR, hF, hS]
  exact ⟨rfl, rfl⟩
theorem mv_told {a p : Bool} {n : Int} (h : szB a p n = true ∨ (a = false ∧ p = false)) (ht : toldB a p n = true) : mvOk (toldT a p n) = true ∧ mvZ (toldT a p n) = ⟨a, p, n⟩ := by
  cases a
  · cases p
    · exact mv_pix ht
    · have h1 : inB (-100000) 100000 n = true := by
        rcases h with h | h
        · exact h
        · exact absurd h.2 (by decide)
      have h2 := inB_yes h1
      exact mv_pct (of_decide_eq_true ht) h2.1 h2.2
  · have h1 : (!p && decide (n = 0)) = true := by
      rcases h with h | h
      · exact h
      · exact absurd h.1 (by decide)
    rw [Bool.and_eq_true] at h1
    have hp : p = false := by simpa using h1.1
    have hn := of_decide_eq_true h1.2
    subst hp hn
    have hA : autoB (toldT true false 0) = true := by
      show autoB ⟨#[97, 117, 116, 111]⟩ = true
      unfold autoB
      rw [ByteArray.toList_eq]
      rfl
    unfold mvOk mvZ
    rw [hA]
    exact ⟨rfl, rfl⟩
theorem mv_tok {X : St} (hX : txtB X = true) {k : Nat} (hk : k < 18) (h : sameB X k = false) (hw : isW k = false) : mvOk (tokT X k) = true ∧ mvZ (tokT X k) = getZ X k := by
  unfold txtB at hX
  rw [Bool.and_eq_true] at hX
  have htk : tokB X k = true := by
    have := okTo_at hX.2 hk
    rw [h, Bool.false_or] at this
    exact this
  rw [tokB_plain X hk hw] at htk
  rw [tokT_plain X hk hw]
  cases hz : isZ k
  · exact mv_told (.inr (by rw [len_flat X hk hw hz]; exact ⟨rfl, rfl⟩)) htk
  · exact mv_told (.inl (sz_good X hk hX.1 hz)) htk

/-! ### Names -/
theorem names_inj : ∀ k, k < 18 → ∀ j, j < 18 → nmT k = nmT j → k = j := by decide +kernel
theorem list_ne {nm : ByteArray} {k : Nat} (h : nm ≠ nmT k) : (nm.toList == (nmT k).data.toList) = false := by
  refine beq_false_of_ne fun e => h ?_
  rw [ByteArray.toList_eq] at e
  exact ByteArray.ext (Array.toList_inj.1 e)

theorem value_any (nm v : ByteArray) (w : World) (hs : v.size ≤ 1048576) :
    Calls Tryz.prog 9 #[.string nm, .string v] w fun e w' => (∃ (n : Int) (z : Sz) (b : Bool), e = .returned (.tuple #[.int .i64 n, .agg #[.bool z.a, .bool z.p, .int .i64 z.n], .bool b]) ∧ ∀ j, j < 18 → ∀ X, txtB X = true → sameB X j = false → nm = nmT j → v = tokT X j → b = true ∧ n = getN X j ∧ z = getZ X j) ∧ Below w.heap.size w w' := by
  by_cases hk : ∃ k, k < 18 ∧ nm = nmT k
  · obtain ⟨k, hk, rfl⟩ := hk
    cases hw : isW k
    · have HW : ∀ w, Calls Tryz.prog 14 #[.string (nmT k)] w fun e w' => e = .returned (.slice none 0 0) ∧ w' = w := fun w => (words_any k hk w).mono fun e w' h => by
        rcases h with h | h
        · rw [hw] at h; exact absurd h.1 (by simp)
        · exact h.2
      refine (value_plain (nmT k) v w hs HW).mono fun e w' h => ⟨⟨0, mvZ v, mvOk v, h.1, fun j hj X hX hd he hv => ?_⟩, h.2⟩
      have := names_inj k hk j hj he
      subst this
      obtain ⟨m1, m2⟩ := mv_tok hX hj hd hw
      rw [hv, m1, m2, getN_flat X hj hw]
      exact ⟨rfl, rfl, rfl⟩
    · refine (value_word k hk hw v w).mono fun e w' h => ?_
      obtain ⟨⟨n, b, he, hm⟩, hb⟩ := h
      refine ⟨⟨n, ⟨false, false, 0⟩, b, he, fun j hj X hX hd he hv => ?_⟩, hb⟩
      have := names_inj k hk j hj he
      subst this
      unfold txtB at hX
      rw [Bool.and_eq_true] at hX
      obtain ⟨m, hgm, hl, h6, ha⟩ := word_at X hk hX.1 hw
      have h0 := word_low X hk hX.1 hw
      have eg : (wl k).getD m ByteArray.empty = tokT X k := by rw [List.getD_eq_getElem?_getD, ha]; rfl
      obtain ⟨q1, q2⟩ := hm m hl (eg.trans hv.symm) (by rw [hv]; exact h0)
      rw [q1, q2, hgm, getZ_word X hk hw]
      exact ⟨rfl, rfl, rfl⟩
  · have hn : ∀ k, k < 18 → nm ≠ nmT k := fun k h1 h2 => hk ⟨k, h1, h2⟩
    have HW := fun w => words_none nm w (list_ne (hn 0 (by omega))) (list_ne (hn 1 (by omega))) (list_ne (hn 2 (by omega))) (list_ne (hn 13 (by omega))) (list_ne (hn 14 (by omega)))
    exact (value_plain nm v w hs HW).mono fun e w' h => ⟨⟨0, mvZ v, mvOk v, h.1, fun j hj X hX hd he hv => absurd he (hn j hj)⟩, h.2⟩

theorem set_any (s : St) (nm : ByteArray) (n m : Int) (a p : Bool) (w : World) :
    Calls Tryz.prog 10 #[.agg (#[.int .i64 s.sh, .int .i64 s.fl, .int .i64 s.cl, .bool s.w.a, .bool s.w.p, .int .i64 s.w.n, .bool s.h.a, .bool s.h.p, .int .i64 s.h.n, .int .i64 s.mn, .int .i64 s.mx, .int .i64 s.mt, .bool s.mr.a, .bool s.mr.p, .int .i64 s.mr.n, .int .i64 s.mb, .bool s.ml.a, .bool s.ml.p, .int .i64 s.ml.n, .int .i64 s.bo, .int .i64 s.pa, .int .i64 s.wh, .int .i64 s.al, .int .i64 s.lh, .int .i64 s.ri, .int .i64 s.dn]), .string nm, .int .i64 n, .agg #[.bool a, .bool p, .int .i64 m]] w fun e w' => (∃ Y : St, e = .returned (.agg (setCells Y)) ∧ ∀ j, j < 18 → nm = nmT j → Y = setT s j n ⟨a, p, m⟩) ∧ Below w.heap.size w w' := by
  by_cases hk : ∃ k, k < 18 ∧ nm = nmT k
  rotate_left
  · have hn : ∀ k, k < 18 → nm ≠ nmT k := fun k h1 h2 => hk ⟨k, h1, h2⟩
    exact (set_none s nm n m a p w (list_ne (hn 0 (by omega))) (list_ne (hn 1 (by omega))) (list_ne (hn 2 (by omega))) (list_ne (hn 3 (by omega))) (list_ne (hn 4 (by omega))) (list_ne (hn 5 (by omega))) (list_ne (hn 6 (by omega))) (list_ne (hn 7 (by omega))) (list_ne (hn 8 (by omega))) (list_ne (hn 9 (by omega))) (list_ne (hn 10 (by omega))) (list_ne (hn 11 (by omega))) (list_ne (hn 12 (by omega))) (list_ne (hn 13 (by omega))) (list_ne (hn 14 (by omega))) (list_ne (hn 15 (by omega))) (list_ne (hn 16 (by omega))) (list_ne (hn 17 (by omega)))).mono fun e w' h => ⟨⟨s, h.1, fun j hj he => absurd he (hn j hj)⟩, h.2⟩
  obtain ⟨k, hk, rfl⟩ := hk
  rcases lt18 hk with rfl | rfl | rfl | rfl | rfl | rfl | rfl | rfl | rfl | rfl | rfl | rfl | rfl | rfl | rfl | rfl | rfl | rfl
  · exact (l4Set_0 s n m a p w).mono fun e w' h => ⟨⟨setT s 0 n ⟨a, p, m⟩, h.1, fun j hj he => by rw [names_inj 0 (by omega) j hj he]⟩, h.2⟩
  · exact (l4Set_1 s n m a p w).mono fun e w' h => ⟨⟨setT s 1 n ⟨a, p, m⟩, h.1, fun j hj he => by rw [names_inj 1 (by omega) j hj he]⟩, h.2⟩
  · exact (l4Set_2 s n m a p w).mono fun e w' h => ⟨⟨setT s 2 n ⟨a, p, m⟩, h.1, fun j hj he => by rw [names_inj 2 (by omega) j hj he]⟩, h.2⟩
  · exact (l4Set_3 s n m a p w).mono fun e w' h => ⟨⟨setT s 3 n ⟨a, p, m⟩, h.1, fun j hj he => by rw [names_inj 3 (by omega) j hj he]⟩, h.2⟩
  · exact (l4Set_4 s n m a p w).mono fun e w' h => ⟨⟨setT s 4 n ⟨a, p, m⟩, h.1, fun j hj he => by rw [names_inj 4 (by omega) j hj he]⟩, h.2⟩
  · exact (l4Set_5 s n m a p w).mono fun e w' h => ⟨⟨setT s 5 n ⟨a, p, m⟩, h.1, fun j hj he => by rw [names_inj 5 (by omega) j hj he]⟩, h.2⟩
  · exact (l4Set_6 s n m a p w).mono fun e w' h => ⟨⟨setT s 6 n ⟨a, p, m⟩, h.1, fun j hj he => by rw [names_inj 6 (by omega) j hj he]⟩, h.2⟩
  · exact (l4Set_7 s n m a p w).mono fun e w' h => ⟨⟨setT s 7 n ⟨a, p, m⟩, h.1, fun j hj he => by rw [names_inj 7 (by omega) j hj he]⟩, h.2⟩
  · exact (l4Set_8 s n m a p w).mono fun e w' h => ⟨⟨setT s 8 n ⟨a, p, m⟩, h.1, fun j hj he => by rw [names_inj 8 (by omega) j hj he]⟩, h.2⟩
  · exact (l4Set_9 s n m a p w).mono fun e w' h => ⟨⟨setT s 9 n ⟨a, p, m⟩, h.1, fun j hj he => by rw [names_inj 9 (by omega) j hj he]⟩, h.2⟩
  · exact (l4Set_10 s n m a p w).mono fun e w' h => ⟨⟨setT s 10 n ⟨a, p, m⟩, h.1, fun j hj he => by rw [names_inj 10 (by omega) j hj he]⟩, h.2⟩
  · exact (l4Set_11 s n m a p w).mono fun e w' h => ⟨⟨setT s 11 n ⟨a, p, m⟩, h.1, fun j hj he => by rw [names_inj 11 (by omega) j hj he]⟩, h.2⟩
  · exact (l4Set_12 s n m a p w).mono fun e w' h => ⟨⟨setT s 12 n ⟨a, p, m⟩, h.1, fun j hj he => by rw [names_inj 12 (by omega) j hj he]⟩, h.2⟩
  · exact (l4Set_13 s n m a p w).mono fun e w' h => ⟨⟨setT s 13 n ⟨a, p, m⟩, h.1, fun j hj he => by rw [names_inj 13 (by omega) j hj he]⟩, h.2⟩
  · exact (l4Set_14 s n m a p w).mono fun e w' h => ⟨⟨setT s 14 n ⟨a, p, m⟩, h.1, fun j hj he => by rw [names_inj 14 (by omega) j hj he]⟩, h.2⟩
  · exact (l4Set_15 s n m a p w).mono fun e w' h => ⟨⟨setT s 15 n ⟨a, p, m⟩, h.1, fun j hj he => by rw [names_inj 15 (by omega) j hj he]⟩, h.2⟩
  · exact (l4Set_16 s n m a p w).mono fun e w' h => ⟨⟨setT s 16 n ⟨a, p, m⟩, h.1, fun j hj he => by rw [names_inj 16 (by omega) j hj he]⟩, h.2⟩
  · exact (l4Set_17 s n m a p w).mono fun e w' h => ⟨⟨setT s 17 n ⟨a, p, m⟩, h.1, fun j hj he => by rw [names_inj 17 (by omega) j hj he]⟩, h.2⟩

/-! ### Texts -/
theorem c_cut_at (u v : ByteArray) (h : ∀ x ∈ u.data.toList, x ≠ 58) : c_dotB (u ++ (⟨#[58]⟩ ++ v)) = true ∧ c_wholeOf (u ++ (⟨#[58]⟩ ++ v)) = u ∧ c_partOf (u ++ (⟨#[58]⟩ ++ v)) = v := by
  have hx : Lib.indexByte (u ++ (⟨#[58]⟩ ++ v)).data.toList 58 = (u.size : Nat) := by
    have e : (u ++ (⟨#[58]⟩ ++ v)).data.toList = u.data.toList ++ 58 :: v.data.toList := by simp
    rw [e, idx_sign 58 _ _ h]
    simp
  obtain ⟨h1, h2, h3⟩ := c_cutOf_hit hx
  refine ⟨h1, h2.trans (front _ _), h3.trans ?_⟩
  have e : u ++ (⟨#[58]⟩ ++ v) = (u ++ ⟨#[58]⟩) ++ v := by rw [ByteArray.append_assoc]
  have es : u.size + 1 = (u ++ ⟨#[58]⟩).size := by rw [ByteArray.size_append]; rfl
  rw [e, es]
  exact rear _ _
theorem names_plain : ∀ k, k < 18 → plainT (nmT k) = true := by decide +kernel
theorem rest_next (X : St) : ∀ (n k : Nat), k + n = 18 → restT X k = ⟨#[]⟩ ∧ mixT X k = mixT X 18 ∨ ∃ j, k ≤ j ∧ j < 18 ∧ sameB X j = false ∧ restT X k = pieceT X j ++ restT X (j + 1) ∧ mixT X k = mixT X j
  | 0, k, h => by
    have : k = 18 := by omega
    subst this
    exact .inl ⟨rfl, rfl⟩
  | n + 1, k, h => by
    cases hs : sameB X k
    · exact .inr ⟨k, Nat.le_refl _, by omega, hs, rest_diff (by omega) hs, rfl⟩
    · rw [rest_same (by omega) hs, ← mix_same (by omega) hs]
      rcases rest_next X n (k + 1) (by omega) with h1 | ⟨j, h1, h2, h3, h4, h5⟩
      · exact .inl h1
      · exact .inr ⟨j, by omega, h2, h3, h4, h5⟩
/-- One thing cut off the front of a text that is told. -/
theorem step_cut {X : St} (hX : txtB X = true) {j : Nat} (hj : j < 18) (hd : sameB X j = false) {t r : ByteArray} (ht : t = pieceT X j ++ r) :
    s_dotB t = true ∧ s_partOf t = r ∧ c_dotB (s_wholeOf t) = true ∧ c_wholeOf (s_wholeOf t) = nmT j ∧ c_partOf (s_wholeOf t) = tokT X j := by
  have p1 := names_plain j hj
  have p2 := (tok_reads hX hj hd).2.2.2
  have e : t = (nmT j ++ (⟨#[58]⟩ ++ tokT X j)) ++ (⟨#[59]⟩ ++ r) := by
    rw [ht]
    unfold pieceT
    simp only [ByteArray.append_assoc]
  have n1 : ∀ x ∈ (nmT j ++ (⟨#[58]⟩ ++ tokT X j)).data.toList, x ≠ 59 := by
    intro x hx
    have e2 : (nmT j ++ (⟨#[58]⟩ ++ tokT X j)).data.toList = (nmT j).data.toList ++ 58 :: (tokT X j).data.toList := by simp
    rw [e2, List.mem_append, List.mem_cons] at hx
    rcases hx with h | rfl | h
    · exact (plainT_ne p1).1 x h
    · decide
    · exact (plainT_ne p2).1 x h
  obtain ⟨a1, a2, a3⟩ := s_cut_at _ r n1
  obtain ⟨b1, b2, b3⟩ := c_cut_at (nmT j) (tokT X j) (plainT_ne p1).2
  rw [e, a1, a2, a3, b1, b2, b3]
  exact ⟨rfl, rfl, rfl, rfl, rfl⟩
end Go.Proofs.YtdgagjnkbmckoaaGreatDoor
