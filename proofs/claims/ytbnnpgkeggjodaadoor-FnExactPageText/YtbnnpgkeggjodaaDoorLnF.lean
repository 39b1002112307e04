/-
  The law's own copies of a row of lines.
-/
import Derived.Test.YtbnnpgkeggjodaaDoorLnR
namespace Go.Proofs.YtbnnpgkeggjodaaDoor
open Go.ChangeShapes Go.WideShapes Go.ChangeAt Go.RowKit
set_option linter.unusedVariables false

set_option maxHeartbeats 2000000 in
theorem toLine_any (n : Ln) (w : World) :
    Calls Tryd.prog 32 #[.agg #[.int .i64 n.bx, .int .i64 n.x, .int .i64 n.y, .int .i64 n.w, .int .i64 n.h, .string n.tx]] w fun e w' => e = .returned (.agg (lnL n).toArray) ∧ Below w.heap.size w w' := by
  go_enter Tryd.func32, Tryd.ntmps32
  go_wp2
  refine bodyPost_ret (v := .agg (lnL n).toArray) (by simp [results, Tryd.results32, go_sem, lnL]) rfl ⟨rfl, ?_⟩
  repeat (first | exact Below.refl _ _ | refine Below.setCell ?_ (by first | (simp; done) | (simp; omega)) _ | refine Below.alloc ?_ (by first | (simp; done) | (simp; omega)) _)
theorem infoLine : (Tryd.prog.info? 64).map (fun i => (i.zero, i.size, i.bytes)) = some (some (.agg #[.int .i64 0, .int .i64 0, .int .i64 0, .int .i64 0, .int .i64 0, .string ByteArray.empty]), 6, 56) := by kernel_rfl
set_option maxRecDepth 100000 in
set_option maxHeartbeats 2000000 in
theorem toLines_some (b off n cap : Nat) (ns : List Ln) (w : World) (hn : ns.length = n) (hl : n ≤ 1048576)
    (hc : ∀ i x, ns[i]? = some x → w.rangeAt b (off + i * 6) (lnL x)) :
    Calls Tryd.prog 16 #[.slice (some ⟨b, off, none⟩) n cap] w fun e w' =>
      e = .returned (.slice (some ⟨w.heap.size, 0, none⟩) n n) ∧ Below w.heap.size w w' ∧ w.heap.size < w'.heap.size ∧ LnOwn w' w.heap.size n ns n := by
  obtain ⟨i0, hi, hz0, hz1, hz2⟩ := info_parts infoLine
  go_enter Tryd.func16, Tryd.ntmps16
  go_wp2_with (at_make; refine wpList_make_full _ rfl (.tmp 6) (.tmp 6) 33 rfl w.heap.size 64 i0 (.agg #[.int .i64 0, .int .i64 0, .int .i64 0, .int .i64 0, .int .i64 0, .string ByteArray.empty]) 6 Tryd.underlying33 hi hz0 hz1 .i64 .i64 n n n rfl rfl rfl rfl (by rw [hz2]; omega) (by unfold maxLen; omega) (Nat.le_refl _) ?_; intro w1 hown1 hgrow1)
  have hb1 := (Below.refl w.heap.size w).grown hgrow1 (Nat.le_refl _) (by intro k h; cases h)
  have own1 : LnOwn w1 w.heap.size n ns 0 := ⟨ln_there_own hown1, fun i x h => absurd h (by omega)⟩
  have hsz1 : w.heap.size < w1.heap.size := by
    rcases hown1.2 with ⟨h', _⟩ | ⟨g', cap', cur, h', _, hg, _⟩
    · simp at h'
    · simp only [Value.slice.injEq, Option.some.injEq, Addr.mk.injEq, and_true, true_and] at h'
      obtain ⟨rfl, rfl⟩ := h'
      exact lies_lt hg
  clear hgrow1 hown1
  go_loopw [4] (fun i wr => ∃ k : Nat, k ≤ n ∧ i = .int .i64 k ∧ LnOwn wr w.heap.size n ns k ∧ w.heap.size < wr.heap.size ∧ Below w.heap.size w wr) (fun i _ => n - (intOf i).toNat)
  case atStart => exact ⟨0, Nat.zero_le _, rfl, own1, hsz1, hb1⟩
  case round =>
    obtain ⟨k, hk, rfl, hown, hsz, hbw⟩ := hrel
    clear own1 hb1 hsz1
    by_cases hlt : k < n
    · obtain ⟨x, hx⟩ : ∃ x, ns[k]? = some x := ⟨_, List.getElem?_eq_getElem (by omega)⟩
      have hr0 := hc k x hx
      have hr := ln_below hr0 hbw (ln_lt hr0)
      have H : Hid (Below w.heap.size w wr) := hbw
      have HO : Hid (LnOwn wr w.heap.size n ns k) := hown
      clear hr0 hc hbw hown
      go_wp2_with (with_reducible show wpList _ _ _ (⟨some 19, Op.load 74 _, _, _, _, _⟩ :: _) _ _; refine wpList_load_mid rfl 74 _ rfl b (off + k * 6) rfl (lnL x) _ hr Tryd.underlying74 rfl (by kernel_rfl) ?_)
      refine (toLine_any x _).mono ?_
      rintro e w2 ⟨rfl, hb⟩
      have O2 := HO.out.below hb hsz
      have B2 := H.out.trans (hb.mono (Nat.le_of_lt hsz))
      have Z2 : w.heap.size < w2.heap.size := Nat.lt_of_lt_of_le hsz hb.size
      clear hr hb HO H
      go_wp2_with (with_reducible show wpList _ _ _ (⟨none, Op.store 64 _ _, _, _, _, _⟩ :: _) _ _; refine wpList_store_mid rfl 64 _ _ rfl w.heap.size (k * 6) (lnL x).toArray ?q1 ?q2 ?q3 ?q4 ?q5 ?_)
      case q1 => rfl
      case q2 => rfl
      case q3 => exact ln_there_at O2.there hlt
      case q4 => kernel_rfl
      case q5 => kernel_rfl

      have O3 := O2.put hlt hx
      have B3 := ln_setCells (lnL x) w.heap.size (k * 6) _ B2 (Nat.le_refl _)
      have Z3 : w.heap.size < (w2.setCells w.heap.size (k * 6) (lnL x)).heap.size := Nat.lt_of_lt_of_le Z2 (ln_setCells (lnL x) w.heap.size (k * 6) w2 (Below.refl 0 w2) (Nat.zero_le _)).size
      revert O3 B3 Z3
      generalize w2.setCells w.heap.size (k * 6) (lnL x) = w3
      intro O3 B3 Z3
      go_wp2
      go_roundw
      case rel => exact ⟨k + 1, by omega, by go_num, O3, Z3, B3⟩
      case measure => simp [intOf]; omega
    · go_wp2
      go_ret
      have : k = n := by omega
      subst this
      exact ⟨rfl, hbw, hsz, hown⟩
set_option maxRecDepth 100000 in
set_option maxHeartbeats 2000000 in
theorem toLines_none (a : Option Addr) (cap : Nat) (w : World) :
    Calls Tryd.prog 16 #[.slice a 0 cap] w fun e w' =>
      e = .returned (.slice (some ⟨w.heap.size, 0, none⟩) 0 0) ∧ Below w.heap.size w w' ∧ w.heap.size < w'.heap.size := by
  obtain ⟨i0, hi, hz0, hz1, hz2⟩ := info_parts infoLine
  go_enter Tryd.func16, Tryd.ntmps16
  go_wp2_with (at_make; refine wpList_make_full _ rfl (.tmp 6) (.tmp 6) 33 rfl w.heap.size 64 i0 (.agg #[.int .i64 0, .int .i64 0, .int .i64 0, .int .i64 0, .int .i64 0, .string ByteArray.empty]) 6 Tryd.underlying33 hi hz0 hz1 .i64 .i64 0 0 0 rfl rfl rfl rfl (by rw [hz2]; omega) (by unfold maxLen; omega) (Nat.le_refl _) ?_; intro w1 hown1 hgrow1)
  have hb1 := (Below.refl w.heap.size w).grown hgrow1 (Nat.le_refl _) (by intro k h; cases h)
  have hsz1 : w.heap.size < w1.heap.size := by
    rcases hown1.2 with ⟨h', _⟩ | ⟨g', cap', cur, h', _, hg, _⟩
    · simp at h'
    · simp only [Value.slice.injEq, Option.some.injEq, Addr.mk.injEq, and_true, true_and] at h'
      obtain ⟨rfl, rfl⟩ := h'
      exact lies_lt hg
  clear hgrow1 hown1
  refine wp_loop_rounds 1 ?_
  rw [rounds_succ]
  go_wp2
  go_ret
  exact ⟨rfl, hb1, hsz1⟩

/-- toNodeS hands back a new row of the same lines. -/
theorem toLines (a : Option Addr) (cap : Nat) (ns : List Ln) (w : World) (hr : LnRow w a ns) (hl : ns.length ≤ 1048576) :
    Calls Tryd.prog 16 #[.slice a ns.length cap] w fun e w' =>
      e = .returned (.slice (some ⟨w.heap.size, 0, none⟩) ns.length ns.length) ∧ Below w.heap.size w w' ∧ w.heap.size < w'.heap.size ∧ LnOwn w' w.heap.size ns.length ns ns.length := by
  rcases hr with rfl | ⟨b, off, rfl, hc⟩
  · exact (toLines_none a cap w).mono fun e w' h => ⟨h.1, h.2.1, h.2.2, fun j hj => absurd hj (by simp), fun i x hi => absurd hi (by simp)⟩
  · exact toLines_some b off ns.length cap ns w rfl hl hc

set_option maxRecDepth 100000 in
set_option maxHeartbeats 2000000 in
theorem szLine_any (n : Ln) (left : Int) (w : World) (h0 : 0 ≤ left) (h1 : left ≤ 1048576) (hs : n.tx.size ≤ maxLen) :
    Calls Tryd.prog 28 #[.agg #[.int .i64 n.bx, .int .i64 n.x, .int .i64 n.y, .int .i64 n.w, .int .i64 n.h, .string n.tx], .int .i64 left] w fun e w' => e = .returned (.int .i64 (if (n.tx.size : Int) ≤ left then left - (n.tx.size : Int) else -1)) ∧ Below w.heap.size w w' := by
  unfold maxLen at hs
  by_cases hlt : (n.tx.size : Int) ≤ left
  · rw [if_pos hlt]
    have hq : ¬ (left - (n.tx.size : Int) < 0) := by omega
    go_enter Tryd.func28, Tryd.ntmps28
    go_wp2
    go_ret
    exact ⟨rfl, (Below.refl _ _).alloc (Nat.le_refl _) _⟩
  · rw [if_neg hlt]
    have hq : left - (n.tx.size : Int) < 0 := by omega
    go_enter Tryd.func28, Tryd.ntmps28
    go_wp2
    go_ret
    exact ⟨rfl, (Below.refl _ _).alloc (Nat.le_refl _) _⟩

/-- What the size test says. -/
def szOkL (ns : List Ln) (z : Int) : Prop := z = -1 ∨ 0 ≤ z ∧ ns.length ≤ 1048576 ∧ ∀ (i : Nat) (x : Ln), ns[i]? = some x → x.tx.size ≤ 1048576
theorem szStepL {ns : List Ln} {k : Nat} {x : Ln} (hx : ns[k]? = some x) (hl : x.tx.size ≤ 1048576) (hp : ∀ (j : Nat) (x : Ln), j < k → ns[j]? = some x → x.tx.size ≤ 1048576) (j : Nat) (y : Ln) (hj : j < k + 1) (hy : ns[j]? = some y) : y.tx.size ≤ 1048576 := by
  by_cases e : j = k
  · subst e
    obtain rfl := Option.some.inj (hx.symm.trans hy)
    exact hl
  · exact hp j y (by omega) hy
set_option maxRecDepth 100000 in
set_option maxHeartbeats 2000000 in
theorem szLines_any (a : Option Addr) (n cap : Nat) (ns : List Ln) (w : World) (hn : ns.length = n) (hr : LnRow w a ns) (hl : n ≤ maxLen) (hs : ∀ x ∈ ns, x.tx.size ≤ maxLen) :
    Calls Tryd.prog 11 #[.slice a n cap, .int .i64 1048576] w fun e w' => (∃ z : Int, e = .returned (.int .i64 z) ∧ szOkL ns z) ∧ Below w.heap.size w w' := by
  unfold maxLen at hl
  by_cases hbig : (1048576 : Int) < (n : Int)
  · have hq : (1048576 : Int) - (n : Int) < 0 := by omega
    clear hr
    go_enter Tryd.func11, Tryd.ntmps11
    go_wp2
    go_ret
    exact ⟨⟨_, rfl, Or.inl rfl⟩, Below.refl _ _⟩
  have hq : ¬ ((1048576 : Int) - (n : Int) < 0) := by omega
  have HR : Hid (LnRow w a ns) := hr
  have HS : Hid (∀ x ∈ ns, x.tx.size ≤ maxLen) := hs
  clear hr hs
  go_enter Tryd.func11, Tryd.ntmps11
  go_wp2_with fail
  clear hq
  go_loopw [1, 5] (fun z i wr => ∃ (k : Nat) (l : Int), k ≤ n ∧ i = .int .i64 k ∧ z = .int .i64 l ∧ 0 ≤ l ∧ l ≤ 1048576 ∧ (∀ j x, j < k → ns[j]? = some x → x.tx.size ≤ 1048576) ∧ Below w.heap.size w wr) (fun _ i _ => n - (intOf i).toNat)
  case atStart => exact ⟨0, _, Nat.zero_le _, rfl, rfl, by omega, by omega, fun j x hj => absurd hj (by omega), Below.refl _ _⟩
  case round =>
    obtain ⟨k, l, hk, rfl, rfl, h0, h1, hp, hbw⟩ := hrel
    have HP : Hid (∀ j x, j < k → ns[j]? = some x → x.tx.size ≤ 1048576) := hp
    clear hp
    by_cases hlt : k < n
    · obtain ⟨x, hx⟩ : ∃ x, ns[k]? = some x := ⟨_, List.getElem?_eq_getElem (by omega)⟩
      obtain ⟨b, off, rfl, hc⟩ : ∃ b off, a = some ⟨b, off, none⟩ ∧ ∀ i n, ns[i]? = some n → w.rangeAt b (off + i * 6) (lnL n) := by
        rcases HR.out with h | h
        · rw [h] at hx; simp at hx
        · exact h
      have hr0 := hc k x hx
      have hr := ln_below hr0 hbw (ln_lt hr0)
      have SN := fun W => szLine_any x l W h0 h1 (HS.out x (List.mem_of_getElem? hx))
      clear hr0 hc HR
      by_cases hle : (x.tx.size : Int) ≤ l
      · rw [if_pos hle] at SN
        have hge : ¬ (l - (x.tx.size : Int) < 0) := by omega
        go_wp2_with (with_reducible show wpList _ _ _ (⟨some 21, Op.load 74 _, _, _, _, _⟩ :: _) _ _; refine wpList_load_mid rfl 74 _ rfl b (off + k * 6) rfl (lnL x) _ hr Tryd.underlying74 rfl (by kernel_rfl) ?_)
        refine (SN _).mono ?_
        rintro e w2 ⟨rfl, hb⟩
        have B2 := hbw.trans (hb.mono hbw.size)
        clear hr hb hbw SN
        go_wp2
        go_roundw
        case rel => exact ⟨k + 1, _, by omega, by go_num, rfl, by omega, by omega, fun j y hj hy => szStepL hx (by omega) HP.out j y hj hy, B2⟩
        case measure => simp [intOf]; omega
      · rw [if_neg hle] at SN
        go_wp2_with (with_reducible show wpList _ _ _ (⟨some 21, Op.load 74 _, _, _, _, _⟩ :: _) _ _; refine wpList_load_mid rfl 74 _ rfl b (off + k * 6) rfl (lnL x) _ hr Tryd.underlying74 rfl (by kernel_rfl) ?_)
        refine (SN _).mono ?_
        rintro e w2 ⟨rfl, hb⟩
        have B2 := hbw.trans (hb.mono hbw.size)
        clear hr hb hbw SN
        go_wp2
        go_ret
        exact ⟨⟨_, rfl, Or.inl rfl⟩, B2⟩
    · go_wp2
      go_ret
      exact ⟨⟨_, rfl, Or.inr ⟨h0, by omega, fun i x hx => HP.out i x (by have := (List.getElem?_eq_some_iff.1 hx).1; omega) hx⟩⟩, hbw⟩

end Go.Proofs.YtbnnpgkeggjodaaDoor
