/-
  The law's own copies of a row of floats.
-/
import Derived.Test.YtbnnpgkeggjodaaDoorAfR
namespace Go.Proofs.YtbnnpgkeggjodaaDoor
open Go.ChangeShapes Go.WideShapes Go.ChangeAt Go.RowKit
set_option linter.unusedVariables false

set_option maxHeartbeats 2000000 in
theorem toAside_any (n : Asd) (w : World) :
    Calls Tryd.prog 33 #[.agg #[.int .i64 n.sd, .int .i64 n.x, .int .i64 n.y, .int .i64 n.w, .int .i64 n.h]] w fun e w' => e = .returned (.agg (asL n).toArray) ∧ Below w.heap.size w w' := by
  go_enter Tryd.func33, Tryd.ntmps33
  go_wp2
  refine bodyPost_ret (v := .agg (asL n).toArray) (by simp [results, Tryd.results33, go_sem, asL]) rfl ⟨rfl, ?_⟩
  repeat (first | exact Below.refl _ _ | refine Below.setCell ?_ (by first | (simp; done) | (simp; omega)) _ | refine Below.alloc ?_ (by first | (simp; done) | (simp; omega)) _)
theorem infoAside : (Tryd.prog.info? 80).map (fun i => (i.zero, i.size, i.bytes)) = some (some (.agg #[.int .i64 0, .int .i64 0, .int .i64 0, .int .i64 0, .int .i64 0]), 5, 40) := by kernel_rfl
set_option maxRecDepth 100000 in
set_option maxHeartbeats 2000000 in
theorem toAsides_some (b off n cap : Nat) (ns : List Asd) (w : World) (hn : ns.length = n) (hl : n ≤ 1048576)
    (hc : ∀ i x, ns[i]? = some x → w.rangeAt b (off + i * 5) (asL x)) :
    Calls Tryd.prog 17 #[.slice (some ⟨b, off, none⟩) n cap] w fun e w' =>
      e = .returned (.slice (some ⟨w.heap.size, 0, none⟩) n n) ∧ Below w.heap.size w w' ∧ w.heap.size < w'.heap.size ∧ AsOwn w' w.heap.size n ns n := by
  obtain ⟨i0, hi, hz0, hz1, hz2⟩ := info_parts infoAside
  go_enter Tryd.func17, Tryd.ntmps17
  go_wp2_with (at_make; refine wpList_make_full _ rfl (.tmp 6) (.tmp 6) 34 rfl w.heap.size 80 i0 (.agg #[.int .i64 0, .int .i64 0, .int .i64 0, .int .i64 0, .int .i64 0]) 5 Tryd.underlying34 hi hz0 hz1 .i64 .i64 n n n rfl rfl rfl rfl (by rw [hz2]; omega) (by unfold maxLen; omega) (Nat.le_refl _) ?_; intro w1 hown1 hgrow1)
  have hb1 := (Below.refl w.heap.size w).grown hgrow1 (Nat.le_refl _) (by intro k h; cases h)
  have own1 : AsOwn w1 w.heap.size n ns 0 := ⟨as_there_own hown1, fun i x h => absurd h (by omega)⟩
  have hsz1 : w.heap.size < w1.heap.size := by
    rcases hown1.2 with ⟨h', _⟩ | ⟨g', cap', cur, h', _, hg, _⟩
    · simp at h'
    · simp only [Value.slice.injEq, Option.some.injEq, Addr.mk.injEq, and_true, true_and] at h'
      obtain ⟨rfl, rfl⟩ := h'
      exact lies_lt hg
  clear hgrow1 hown1
  go_loopw [4] (fun i wr => ∃ k : Nat, k ≤ n ∧ i = .int .i64 k ∧ AsOwn wr w.heap.size n ns k ∧ w.heap.size < wr.heap.size ∧ Below w.heap.size w wr) (fun i _ => n - (intOf i).toNat)
  case atStart => exact ⟨0, Nat.zero_le _, rfl, own1, hsz1, hb1⟩
  case round =>
    obtain ⟨k, hk, rfl, hown, hsz, hbw⟩ := hrel
    clear own1 hb1 hsz1
    by_cases hlt : k < n
    · obtain ⟨x, hx⟩ : ∃ x, ns[k]? = some x := ⟨_, List.getElem?_eq_getElem (by omega)⟩
      have hr0 := hc k x hx
      have hr := as_below hr0 hbw (as_lt hr0)
      have H : Hid (Below w.heap.size w wr) := hbw
      have HO : Hid (AsOwn wr w.heap.size n ns k) := hown
      clear hr0 hc hbw hown
      go_wp2_with (with_reducible show wpList _ _ _ (⟨some 19, Op.load 82 _, _, _, _, _⟩ :: _) _ _; refine wpList_load_mid rfl 82 _ rfl b (off + k * 5) rfl (asL x) _ hr Tryd.underlying82 rfl (by kernel_rfl) ?_)
      refine (toAside_any x _).mono ?_
      rintro e w2 ⟨rfl, hb⟩
      have O2 := HO.out.below hb hsz
      have B2 := H.out.trans (hb.mono (Nat.le_of_lt hsz))
      have Z2 : w.heap.size < w2.heap.size := Nat.lt_of_lt_of_le hsz hb.size
      clear hr hb HO H
      go_wp2_with (with_reducible show wpList _ _ _ (⟨none, Op.store 80 _ _, _, _, _, _⟩ :: _) _ _; refine wpList_store_mid rfl 80 _ _ rfl w.heap.size (k * 5) (asL x).toArray ?q1 ?q2 ?q3 ?q4 ?q5 ?_)
      case q1 => rfl
      case q2 => rfl
      case q3 => exact as_there_at O2.there hlt
      case q4 => kernel_rfl
      case q5 => kernel_rfl

      have O3 := O2.put hlt hx
      have B3 := as_setCells (asL x) w.heap.size (k * 5) _ B2 (Nat.le_refl _)
      have Z3 : w.heap.size < (w2.setCells w.heap.size (k * 5) (asL x)).heap.size := Nat.lt_of_lt_of_le Z2 (as_setCells (asL x) w.heap.size (k * 5) w2 (Below.refl 0 w2) (Nat.zero_le _)).size
      revert O3 B3 Z3
      generalize w2.setCells w.heap.size (k * 5) (asL x) = w3
      intro O3 B3 Z3
      go_wp2
      go_roundw
      case rel => exact ⟨k + 1, by omega, by go_num, O3, Z3, B3⟩
      case measure => simp [intOf]; omega
    · go_wp2
      go_ret
      have : k = n := by omega
      subst this
      exact ⟨rfl, hbw, hsz, hown⟩
set_option maxRecDepth 100000 in
set_option maxHeartbeats 2000000 in
theorem toAsides_none (a : Option Addr) (cap : Nat) (w : World) :
    Calls Tryd.prog 17 #[.slice a 0 cap] w fun e w' =>
      e = .returned (.slice (some ⟨w.heap.size, 0, none⟩) 0 0) ∧ Below w.heap.size w w' ∧ w.heap.size < w'.heap.size := by
  obtain ⟨i0, hi, hz0, hz1, hz2⟩ := info_parts infoAside
  go_enter Tryd.func17, Tryd.ntmps17
  go_wp2_with (at_make; refine wpList_make_full _ rfl (.tmp 6) (.tmp 6) 34 rfl w.heap.size 80 i0 (.agg #[.int .i64 0, .int .i64 0, .int .i64 0, .int .i64 0, .int .i64 0]) 5 Tryd.underlying34 hi hz0 hz1 .i64 .i64 0 0 0 rfl rfl rfl rfl (by rw [hz2]; omega) (by unfold maxLen; omega) (Nat.le_refl _) ?_; intro w1 hown1 hgrow1)
  have hb1 := (Below.refl w.heap.size w).grown hgrow1 (Nat.le_refl _) (by intro k h; cases h)
  have hsz1 : w.heap.size < w1.heap.size := by
    rcases hown1.2 with ⟨h', _⟩ | ⟨g', cap', cur, h', _, hg, _⟩
    · simp at h'
    · simp only [Value.slice.injEq, Option.some.injEq, Addr.mk.injEq, and_true, true_and] at h'
      obtain ⟨rfl, rfl⟩ := h'
      exact lies_lt hg
  clear hgrow1 hown1
  refine wp_loop_rounds 1 ?_
  rw [rounds_succ]
  go_wp2
  go_ret
  exact ⟨rfl, hb1, hsz1⟩

/-- toNodeS hands back a new row of the same floats. -/
theorem toAsides (a : Option Addr) (cap : Nat) (ns : List Asd) (w : World) (hr : AsRow w a ns) (hl : ns.length ≤ 1048576) :
    Calls Tryd.prog 17 #[.slice a ns.length cap] w fun e w' =>
      e = .returned (.slice (some ⟨w.heap.size, 0, none⟩) ns.length ns.length) ∧ Below w.heap.size w w' ∧ w.heap.size < w'.heap.size ∧ AsOwn w' w.heap.size ns.length ns ns.length := by
  rcases hr with rfl | ⟨b, off, rfl, hc⟩
  · exact (toAsides_none a cap w).mono fun e w' h => ⟨h.1, h.2.1, h.2.2, fun j hj => absurd hj (by simp), fun i x hi => absurd hi (by simp)⟩
  · exact toAsides_some b off ns.length cap ns w rfl hl hc

set_option maxRecDepth 100000 in
set_option maxHeartbeats 2000000 in
theorem szAsides_any (a : Option Addr) (n cap : Nat) (w : World) (hl : n ≤ maxLen) :
    Calls Tryd.prog 12 #[.slice a n cap, .int .i64 1048576] w fun e w' => (∃ z : Int, e = .returned (.int .i64 z) ∧ (z = -1 ∨ 0 ≤ z ∧ n ≤ 1048576)) ∧ Below w.heap.size w w' := by
  unfold maxLen at hl
  by_cases hbig : (1048576 : Int) < (n : Int)
  · have hq : (1048576 : Int) - (n : Int) < 0 := by omega
    go_enter Tryd.func12, Tryd.ntmps12
    go_wp2
    go_ret
    exact ⟨⟨_, rfl, Or.inl rfl⟩, Below.refl _ _⟩
  have hq : ¬ ((1048576 : Int) - (n : Int) < 0) := by omega
  go_enter Tryd.func12, Tryd.ntmps12
  go_wp2
  go_ret
  exact ⟨⟨_, rfl, Or.inr ⟨by omega, by omega⟩⟩, Below.refl _ _⟩
end Go.Proofs.YtbnnpgkeggjodaaDoor
