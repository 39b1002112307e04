/-
  Rows of boxes in memory: what it is that a slice reads as some boxes, and what keeps it so.
  The law's own copies of a row of boxes.
  The law's own comparison of a row of boxes with another of the same boxes.
  The law's own marking of a row of boxes, and its looking again: it writes into that row alone, and counts on.
  The law's own marking of a row of boxes, and its looking again.
  A slice of boxes of the law's own type that came in: what it holds.
  The law's own looking again at a row of boxes that it has marked.
-/
import Derived.Test.YtbphninknpfcmaaDoorBxP
import Derived.Test.YtbphninknpfcmaaDoorWide
import Derived.Deep.MidRow
import Derived.Below
import Derived.Deep.RegionHeld3
import Derived.Lib.ItoaNum
import Derived.WalkSpells
import Derived.WalkLawsBesides
import Derived.Deep.Slices
import Derived.OpenShut
namespace Go.Proofs.YtbphninknpfcmaaDoor
open Go.ChangeShapes Go.WideShapes Go.ChangeAt Go.RowKit
set_option linter.unusedVariables false

/-- A slice value at address a reads as the boxes ns. -/
def BxRow (w : World) (a : Option Addr) (ns : List Bx) : Prop :=
  ns = [] ∨ ∃ b off, a = some ⟨b, off, none⟩ ∧ ∀ i n, ns[i]? = some n → w.rangeAt b (off + i * 4) (bxL n)
theorem bx_lt {w : World} {b o : Nat} {n : Bx} (h : w.rangeAt b o (bxL n)) : b < w.heap.size := World.block_lt_of_cell? _ _ (h 0 (.int .i64 n.kd) rfl)
theorem bx_below {B : Nat} {w w' : World} {b o : Nat} {n : Bx} (h : w.rangeAt b o (bxL n)) (hb : Below B w w') (hB : b < B) : w'.rangeAt b o (bxL n) :=
  fun j v hv => (hb.cell (p := ⟨b, o + j, none⟩) hB).trans (h j v hv)
theorem BxRow.below {w w' : World} {a : Option Addr} {ns : List Bx} (h : BxRow w a ns) (hb : Below w.heap.size w w') : BxRow w' a ns := by
  rcases h with h | ⟨b, off, rfl, hc⟩
  · exact .inl h
  · exact .inr ⟨b, off, rfl, fun i n hn => bx_below (hc i n hn) hb (bx_lt (hc i n hn))⟩
theorem bx_setCells {B : Nat} {a : World} : ∀ (vs : List Value) (b o : Nat) (w : World), Below B a w → B ≤ b → Below B a (w.setCells b o vs)
  | [], _, _, _, h, _ => h
  | v :: vs, b, o, w, h, hb => by
    rw [World.setCells]
    exact bx_setCells vs b (o + 1) _ (h.setCell (p := ⟨b, o, none⟩) hb v) hb
/-- Nodes in memory that a call has made: it may write there. -/
structure BxOwn (w : World) (g : Nat) (n : Nat) (ns : List Bx) (k : Nat) : Prop where
  there : w.there g 0 (n * 4)
  rows : ∀ i x, i < k → ns[i]? = some x → w.rangeAt g (i * 4) (bxL x)
theorem BxOwn.row {w : World} {g n : Nat} {ns : List Bx} (h : BxOwn w g n ns ns.length) : BxRow w (some ⟨g, 0, none⟩) ns :=
  .inr ⟨g, 0, rfl, fun i x hx => by rw [Nat.zero_add]; exact h.rows i x (List.getElem?_eq_some_iff.1 hx).1 hx⟩
theorem bx_there_below {B : Nat} {w w' : World} {g o n : Nat} (h : w.there g o n) (hb : Below B w w') (hB : g < B) : w'.there g o n := fun j hj =>
  ⟨by rw [hb.cell (p := ⟨g, o + j, none⟩) hB]; exact (h j hj).1, by rw [hb.frozen (p := ⟨g, o + j, none⟩) hB]; exact (h j hj).2⟩
theorem BxOwn.below {B : Nat} {w w' : World} {g n k : Nat} {ns : List Bx} (h : BxOwn w g n ns k) (hb : Below B w w') (hB : g < B) : BxOwn w' g n ns k :=
  ⟨bx_there_below h.there hb hB, fun i x hi hx => bx_below (h.rows i x hi hx) hb hB⟩
theorem bx_there_at {w : World} {g n k : Nat} (h : w.there g 0 (n * 4)) (hk : k < n) : w.there g (k * 4) 4 := fun j hj => by
  have := h (k * 4 + j) (by omega)
  rwa [Nat.zero_add] at this
theorem BxOwn.put {w : World} {g n k : Nat} {ns : List Bx} {x : Bx} (h : BxOwn w g n ns k) (hk : k < n) (hx : ns[k]? = some x) : BxOwn (w.setCells g (k * 4) (bxL x)) g n ns (k + 1) := by
  refine ⟨World.there_setCells h.there _ _ _, fun i y hi hy => ?_⟩
  by_cases e : i = k
  · subst e
    obtain rfl : x = y := Option.some.inj (hx.symm.trans hy)
    exact World.rangeAt_setCells_same _ _ _ _ (bx_there_at h.there hk)
  · exact World.rangeAt_setCells_apart (h.rows i y (by omega) hy) _ _ _ (by right; left; rw [bxL_len]; omega)
theorem bx_there_own {w : World} {base e size g n cap : Nat} {xs : List Value} (h : w.ownsRow base e size (.slice (some ⟨g, 0, none⟩) n cap) n xs) : w.there g 0 (n * size) := by
  rcases h.2 with ⟨h', _⟩ | ⟨g', cap', cur, h', _, hg, hn, _, hsz, _⟩
  · simp at h'
  · simp only [Value.slice.injEq, Option.some.injEq, Addr.mk.injEq, and_true, true_and] at h'
    obtain ⟨rfl, rfl⟩ := h'
    intro j hj
    have hl : j < cur.size := by rw [hsz]; exact Nat.lt_of_lt_of_le hj (Nat.mul_le_mul_right _ hn)
    refine ⟨by rw [cell_of_row w g (0 + j) cur e _ hg, Nat.zero_add, Array.getElem?_eq_getElem hl]; rfl, ?_⟩
    exact h.frozenAt (0 + j)
end Go.Proofs.YtbphninknpfcmaaDoor

namespace Go.Proofs.YtbphninknpfcmaaDoor
open Go.ChangeShapes Go.WideShapes Go.ChangeAt Go.RowKit
set_option linter.unusedVariables false

set_option maxHeartbeats 2000000 in
theorem toBox_any (n : Bx) (w : World) :
    Calls Tryd.prog 42 #[.agg #[.int .i64 n.kd, .int .i64 n.nd, .int .i64 n.up, .string n.tx]] w fun e w' => e = .returned (.agg (bxL n).toArray) ∧ Below w.heap.size w w' := by
  go_enter Tryd.func42, Tryd.ntmps42
  go_wp2
  refine bodyPost_ret (v := .agg (bxL n).toArray) (by simp [results, Tryd.results42, go_sem, bxL]) rfl ⟨rfl, ?_⟩
  repeat (first | exact Below.refl _ _ | refine Below.setCell ?_ (by first | (simp; done) | (simp; omega)) _ | refine Below.alloc ?_ (by first | (simp; done) | (simp; omega)) _)
theorem infoBox : (Tryd.prog.info? 76).map (fun i => (i.zero, i.size, i.bytes)) = some (some (.agg #[.int .i64 0, .int .i64 0, .int .i64 0, .string ByteArray.empty]), 4, 40) := by kernel_rfl
set_option maxRecDepth 100000 in
set_option maxHeartbeats 2000000 in
theorem toBoxes_some (b off n cap : Nat) (ns : List Bx) (w : World) (hn : ns.length = n) (hl : n ≤ 1048576)
    (hc : ∀ i x, ns[i]? = some x → w.rangeAt b (off + i * 4) (bxL x)) :
    Calls Tryd.prog 19 #[.slice (some ⟨b, off, none⟩) n cap] w fun e w' =>
      e = .returned (.slice (some ⟨w.heap.size, 0, none⟩) n n) ∧ Below w.heap.size w w' ∧ w.heap.size < w'.heap.size ∧ BxOwn w' w.heap.size n ns n := by
  obtain ⟨i0, hi, hz0, hz1, hz2⟩ := info_parts infoBox
  go_enter Tryd.func19, Tryd.ntmps19
  go_wp2_with (at_make; refine wpList_make_full _ rfl (.tmp 6) (.tmp 6) 24 rfl w.heap.size 76 i0 (.agg #[.int .i64 0, .int .i64 0, .int .i64 0, .string ByteArray.empty]) 4 Tryd.underlying24 hi hz0 hz1 .i64 .i64 n n n rfl rfl rfl rfl (by rw [hz2]; omega) (by unfold maxLen; omega) (Nat.le_refl _) ?_; intro w1 hown1 hgrow1)
  have hb1 := (Below.refl w.heap.size w).grown hgrow1 (Nat.le_refl _) (by intro k h; cases h)
  have own1 : BxOwn w1 w.heap.size n ns 0 := ⟨bx_there_own hown1, fun i x h => absurd h (by omega)⟩
  have hsz1 : w.heap.size < w1.heap.size := by
    rcases hown1.2 with ⟨h', _⟩ | ⟨g', cap', cur, h', _, hg, _⟩
    · simp at h'
    · simp only [Value.slice.injEq, Option.some.injEq, Addr.mk.injEq, and_true, true_and] at h'
      obtain ⟨rfl, rfl⟩ := h'
      exact lies_lt hg
  clear hgrow1 hown1
  go_loopw [4] (fun i wr => ∃ k : Nat, k ≤ n ∧ i = .int .i64 k ∧ BxOwn wr w.heap.size n ns k ∧ w.heap.size < wr.heap.size ∧ Below w.heap.size w wr) (fun i _ => n - (intOf i).toNat)
  case atStart => exact ⟨0, Nat.zero_le _, rfl, own1, hsz1, hb1⟩
  case round =>
    obtain ⟨k, hk, rfl, hown, hsz, hbw⟩ := hrel
    clear own1 hb1 hsz1
    by_cases hlt : k < n
    · obtain ⟨x, hx⟩ : ∃ x, ns[k]? = some x := ⟨_, List.getElem?_eq_getElem (by omega)⟩
      have hr0 := hc k x hx
      have hr := bx_below hr0 hbw (bx_lt hr0)
      have H : Hid (Below w.heap.size w wr) := hbw
      have HO : Hid (BxOwn wr w.heap.size n ns k) := hown
      clear hr0 hc hbw hown
      go_wp2_with (with_reducible show wpList _ _ _ (⟨some 19, Op.load 80 _, _, _, _, _⟩ :: _) _ _; refine wpList_load_mid rfl 80 _ rfl b (off + k * 4) rfl (bxL x) _ hr Tryd.underlying80 rfl (by kernel_rfl) ?_)
      refine (toBox_any x _).mono ?_
      rintro e w2 ⟨rfl, hb⟩
      have O2 := HO.out.below hb hsz
      have B2 := H.out.trans (hb.mono (Nat.le_of_lt hsz))
      have Z2 : w.heap.size < w2.heap.size := Nat.lt_of_lt_of_le hsz hb.size
      clear hr hb HO H
      go_wp2_with (with_reducible show wpList _ _ _ (⟨none, Op.store 76 _ _, _, _, _, _⟩ :: _) _ _; refine wpList_store_mid rfl 76 _ _ rfl w.heap.size (k * 4) (bxL x).toArray ?q1 ?q2 ?q3 ?q4 ?q5 ?_)
      case q1 => rfl
      case q2 => rfl
      case q3 => exact bx_there_at O2.there hlt
      case q4 => kernel_rfl
      case q5 => kernel_rfl

      have O3 := O2.put hlt hx
      have B3 := bx_setCells (bxL x) w.heap.size (k * 4) _ B2 (Nat.le_refl _)
      have Z3 : w.heap.size < (w2.setCells w.heap.size (k * 4) (bxL x)).heap.size := Nat.lt_of_lt_of_le Z2 (bx_setCells (bxL x) w.heap.size (k * 4) w2 (Below.refl 0 w2) (Nat.zero_le _)).size
      revert O3 B3 Z3
      generalize w2.setCells w.heap.size (k * 4) (bxL x) = w3
      intro O3 B3 Z3
      go_wp2
      go_roundw
      case rel => exact ⟨k + 1, by omega, by go_num, O3, Z3, B3⟩
      case measure => simp [intOf]; omega
    · go_wp2
      go_ret
      have : k = n := by omega
      subst this
      exact ⟨rfl, hbw, hsz, hown⟩
set_option maxRecDepth 100000 in
set_option maxHeartbeats 2000000 in
theorem toBoxes_none (a : Option Addr) (cap : Nat) (w : World) :
    Calls Tryd.prog 19 #[.slice a 0 cap] w fun e w' =>
      e = .returned (.slice (some ⟨w.heap.size, 0, none⟩) 0 0) ∧ Below w.heap.size w w' ∧ w.heap.size < w'.heap.size := by
  obtain ⟨i0, hi, hz0, hz1, hz2⟩ := info_parts infoBox
  go_enter Tryd.func19, Tryd.ntmps19
  go_wp2_with (at_make; refine wpList_make_full _ rfl (.tmp 6) (.tmp 6) 24 rfl w.heap.size 76 i0 (.agg #[.int .i64 0, .int .i64 0, .int .i64 0, .string ByteArray.empty]) 4 Tryd.underlying24 hi hz0 hz1 .i64 .i64 0 0 0 rfl rfl rfl rfl (by rw [hz2]; omega) (by unfold maxLen; omega) (Nat.le_refl _) ?_; intro w1 hown1 hgrow1)
  have hb1 := (Below.refl w.heap.size w).grown hgrow1 (Nat.le_refl _) (by intro k h; cases h)
  have hsz1 : w.heap.size < w1.heap.size := by
    rcases hown1.2 with ⟨h', _⟩ | ⟨g', cap', cur, h', _, hg, _⟩
    · simp at h'
    · simp only [Value.slice.injEq, Option.some.injEq, Addr.mk.injEq, and_true, true_and] at h'
      obtain ⟨rfl, rfl⟩ := h'
      exact lies_lt hg
  clear hgrow1 hown1
  refine wp_loop_rounds 1 ?_
  rw [rounds_succ]
  go_wp2
  go_ret
  exact ⟨rfl, hb1, hsz1⟩

/-- toNodeS hands back a new row of the same boxes. -/
theorem toBoxes (a : Option Addr) (cap : Nat) (ns : List Bx) (w : World) (hr : BxRow w a ns) (hl : ns.length ≤ 1048576) :
    Calls Tryd.prog 19 #[.slice a ns.length cap] w fun e w' =>
      e = .returned (.slice (some ⟨w.heap.size, 0, none⟩) ns.length ns.length) ∧ Below w.heap.size w w' ∧ w.heap.size < w'.heap.size ∧ BxOwn w' w.heap.size ns.length ns ns.length := by
  rcases hr with rfl | ⟨b, off, rfl, hc⟩
  · exact (toBoxes_none a cap w).mono fun e w' h => ⟨h.1, h.2.1, h.2.2, fun j hj => absurd hj (by simp), fun i x hi => absurd hi (by simp)⟩
  · exact toBoxes_some b off ns.length cap ns w rfl hl hc

set_option maxRecDepth 100000 in
set_option maxHeartbeats 2000000 in
theorem szBox_any (n : Bx) (left : Int) (w : World) (h0 : 0 ≤ left) (h1 : left ≤ 1048576) (hs : n.tx.size ≤ maxLen) :
    Calls Tryd.prog 41 #[.agg #[.int .i64 n.kd, .int .i64 n.nd, .int .i64 n.up, .string n.tx], .int .i64 left] w fun e w' => e = .returned (.int .i64 (if (n.tx.size : Int) ≤ left then left - (n.tx.size : Int) else -1)) ∧ Below w.heap.size w w' := by
  unfold maxLen at hs
  by_cases hlt : (n.tx.size : Int) ≤ left
  · rw [if_pos hlt]
    have hq : ¬ (left - (n.tx.size : Int) < 0) := by omega
    go_enter Tryd.func41, Tryd.ntmps41
    go_wp2
    go_ret
    exact ⟨rfl, (Below.refl _ _).alloc (Nat.le_refl _) _⟩
  · rw [if_neg hlt]
    have hq : left - (n.tx.size : Int) < 0 := by omega
    go_enter Tryd.func41, Tryd.ntmps41
    go_wp2
    go_ret
    exact ⟨rfl, (Below.refl _ _).alloc (Nat.le_refl _) _⟩

/-- What the size test says. -/
def szOkX (ns : List Bx) (z : Int) : Prop := z = -1 ∨ 0 ≤ z ∧ ns.length ≤ 1048576 ∧ ∀ (i : Nat) (x : Bx), ns[i]? = some x → x.tx.size ≤ 1048576
theorem szStepX {ns : List Bx} {k : Nat} {x : Bx} (hx : ns[k]? = some x) (hl : x.tx.size ≤ 1048576) (hp : ∀ (j : Nat) (x : Bx), j < k → ns[j]? = some x → x.tx.size ≤ 1048576) (j : Nat) (y : Bx) (hj : j < k + 1) (hy : ns[j]? = some y) : y.tx.size ≤ 1048576 := by
  by_cases e : j = k
  · subst e
    obtain rfl := Option.some.inj (hx.symm.trans hy)
    exact hl
  · exact hp j y (by omega) hy
set_option maxRecDepth 100000 in
set_option maxHeartbeats 2000000 in
theorem szBoxes_any (a : Option Addr) (n cap : Nat) (ns : List Bx) (w : World) (hn : ns.length = n) (hr : BxRow w a ns) (hl : n ≤ maxLen) (hs : ∀ x ∈ ns, x.tx.size ≤ maxLen) :
    Calls Tryd.prog 17 #[.slice a n cap, .int .i64 1048576] w fun e w' => (∃ z : Int, e = .returned (.int .i64 z) ∧ szOkX ns z) ∧ Below w.heap.size w w' := by
  unfold maxLen at hl
  by_cases hbig : (1048576 : Int) < (n : Int)
  · have hq : (1048576 : Int) - (n : Int) < 0 := by omega
    clear hr
    go_enter Tryd.func17, Tryd.ntmps17
    go_wp2
    go_ret
    exact ⟨⟨_, rfl, Or.inl rfl⟩, Below.refl _ _⟩
  have hq : ¬ ((1048576 : Int) - (n : Int) < 0) := by omega
  have HR : Hid (BxRow w a ns) := hr
  have HS : Hid (∀ x ∈ ns, x.tx.size ≤ maxLen) := hs
  clear hr hs
  go_enter Tryd.func17, Tryd.ntmps17
  go_wp2_with fail
  clear hq
  go_loopw [1, 5] (fun z i wr => ∃ (k : Nat) (l : Int), k ≤ n ∧ i = .int .i64 k ∧ z = .int .i64 l ∧ 0 ≤ l ∧ l ≤ 1048576 ∧ (∀ j x, j < k → ns[j]? = some x → x.tx.size ≤ 1048576) ∧ Below w.heap.size w wr) (fun _ i _ => n - (intOf i).toNat)
  case atStart => exact ⟨0, _, Nat.zero_le _, rfl, rfl, by omega, by omega, fun j x hj => absurd hj (by omega), Below.refl _ _⟩
  case round =>
    obtain ⟨k, l, hk, rfl, rfl, h0, h1, hp, hbw⟩ := hrel
    have HP : Hid (∀ j x, j < k → ns[j]? = some x → x.tx.size ≤ 1048576) := hp
    clear hp
    by_cases hlt : k < n
    · obtain ⟨x, hx⟩ : ∃ x, ns[k]? = some x := ⟨_, List.getElem?_eq_getElem (by omega)⟩
      obtain ⟨b, off, rfl, hc⟩ : ∃ b off, a = some ⟨b, off, none⟩ ∧ ∀ i n, ns[i]? = some n → w.rangeAt b (off + i * 4) (bxL n) := by
        rcases HR.out with h | h
        · rw [h] at hx; simp at hx
        · exact h
      have hr0 := hc k x hx
      have hr := bx_below hr0 hbw (bx_lt hr0)
      have SN := fun W => szBox_any x l W h0 h1 (HS.out x (List.mem_of_getElem? hx))
      clear hr0 hc HR
      by_cases hle : (x.tx.size : Int) ≤ l
      · rw [if_pos hle] at SN
        have hge : ¬ (l - (x.tx.size : Int) < 0) := by omega
        go_wp2_with (with_reducible show wpList _ _ _ (⟨some 21, Op.load 80 _, _, _, _, _⟩ :: _) _ _; refine wpList_load_mid rfl 80 _ rfl b (off + k * 4) rfl (bxL x) _ hr Tryd.underlying80 rfl (by kernel_rfl) ?_)
        refine (SN _).mono ?_
        rintro e w2 ⟨rfl, hb⟩
        have B2 := hbw.trans (hb.mono hbw.size)
        clear hr hb hbw SN
        go_wp2
        go_roundw
        case rel => exact ⟨k + 1, _, by omega, by go_num, rfl, by omega, by omega, fun j y hj hy => szStepX hx (by omega) HP.out j y hj hy, B2⟩
        case measure => simp [intOf]; omega
      · rw [if_neg hle] at SN
        go_wp2_with (with_reducible show wpList _ _ _ (⟨some 21, Op.load 80 _, _, _, _, _⟩ :: _) _ _; refine wpList_load_mid rfl 80 _ rfl b (off + k * 4) rfl (bxL x) _ hr Tryd.underlying80 rfl (by kernel_rfl) ?_)
        refine (SN _).mono ?_
        rintro e w2 ⟨rfl, hb⟩
        have B2 := hbw.trans (hb.mono hbw.size)
        clear hr hb hbw SN
        go_wp2
        go_ret
        exact ⟨⟨_, rfl, Or.inl rfl⟩, B2⟩
    · go_wp2
      go_ret
      exact ⟨⟨_, rfl, Or.inr ⟨h0, by omega, fun i x hx => HP.out i x (by have := (List.getElem?_eq_some_iff.1 hx).1; omega) hx⟩⟩, hbw⟩

end Go.Proofs.YtbphninknpfcmaaDoor

namespace Go.Proofs.YtbphninknpfcmaaDoor
open Go.ChangeShapes Go.WideShapes Go.ChangeAt Go.RowKit
set_option linter.unusedVariables false

theorem load_bx {w : World} {b o : Nat} {x : Bx} (h : w.rangeAt b o (bxL x)) : (Instr.loadAt 76 (.pointer (some ⟨b, o, none⟩))).run Tryd.prog w = .ok (.agg #[.int .i64 x.kd, .int .i64 x.nd, .int .i64 x.up, .string x.tx]) w :=
  run_loadAt_mid w b o 76 (bxL x) _ h Tryd.underlying76 rfl (by kernel_rfl)
theorem bx_cells {w : World} {b o : Nat} {x : Bx} (h : w.rangeAt b o (bxL x)) : w.cell? ⟨b, o, none⟩ = some (.int .i64 x.kd) ∧ w.cell? ⟨b, o + 1, none⟩ = some (.int .i64 x.nd) ∧ w.cell? ⟨b, o + 2, none⟩ = some (.int .i64 x.up) ∧ w.cell? ⟨b, o + 3, none⟩ = some (.string x.tx) :=
  ⟨h 0 _ rfl, h 1 _ rfl, h 2 _ rfl, h 3 _ rfl⟩
set_option maxHeartbeats 2000000 in
theorem eqBox_same (n : Bx) (w : World) :
    Calls Tryd.prog 38 #[.agg #[.int .i64 n.kd, .int .i64 n.nd, .int .i64 n.up, .string n.tx], .agg #[.int .i64 n.kd, .int .i64 n.nd, .int .i64 n.up, .string n.tx]] w fun e w' => e = .returned (.bool true) ∧ Below w.heap.size w w' := by
  go_enter Tryd.func38, Tryd.ntmps38
  go_wp2
  go_ret
  exact ⟨rfl, ((Below.refl _ _).alloc (Nat.le_refl _) _).alloc (by simp) _⟩

set_option maxRecDepth 100000 in
set_option maxHeartbeats 4000000 in
theorem eqBoxes_some (b off b' off' n cap cap' : Nat) (ns : List Bx) (w : World) (hn : ns.length = n) (hl : n ≤ 1048576)
    (hc : ∀ i x, ns[i]? = some x → w.rangeAt b (off + i * 4) (bxL x)) (hd : ∀ i x, ns[i]? = some x → w.rangeAt b' (off' + i * 4) (bxL x)) :
    Calls Tryd.prog 12 #[.slice (some ⟨b, off, none⟩) n cap, .slice (some ⟨b', off', none⟩) n cap'] w fun e w' => e = .returned (.bool true) ∧ Below w.heap.size w w' := by
  have HC : Hid (∀ i x, ns[i]? = some x → w.rangeAt b (off + i * 4) (bxL x)) := hc
  have HD : Hid (∀ i x, ns[i]? = some x → w.rangeAt b' (off' + i * 4) (bxL x)) := hd
  clear hc hd
  go_enter Tryd.func12, Tryd.ntmps12
  go_wp2
  go_loopw [5] (fun i wr => ∃ k : Nat, k ≤ n ∧ i = .int .i64 k ∧ Below w.heap.size w wr) (fun i _ => n - (intOf i).toNat)
  case atStart => exact ⟨0, Nat.zero_le _, rfl, Below.refl _ _⟩
  case round =>
    obtain ⟨k, hk, rfl, hbw⟩ := hrel
    by_cases hlt : k < n
    · obtain ⟨x, hx⟩ : ∃ x, ns[k]? = some x := ⟨_, List.getElem?_eq_getElem (by omega)⟩
      have hr := bx_below (HC.out k x hx) hbw (bx_lt (HC.out k x hx))
      have hs := bx_below (HD.out k x hx) hbw (bx_lt (HD.out k x hx))
      have lb := bx_lt hr
      have lb' := bx_lt hs
      have EQ := fun W => eqBox_same x W
      have hlt' : (k : Int) < (n : Int) := by omega
      clear HC HD
      go_wp2
      refine wp_region_held_drew (S := fun w' => w'.rangeAt b (off + k * 4) (bxL x) ∧ w'.rangeAt b' (off' + k * 4) (bxL x)) (by kernel_rfl) ⟨(World.rangeAt_drew _ _ _ _).2 hr, (World.rangeAt_drew _ _ _ _).2 hs⟩ (fun hHeld => ?_)
      refine wpAnyH_take (i := 0) (oi := { dst := some 17, op := Op.move (Operand.tmp 0), type := 24, pos := "exact.go:645", after := #[], guard := none }) (v := .slice (some ⟨b, off, none⟩) n cap) rfl (by kernel_rfl) (by kernel_rfl) (by kernel_rfl) (fun _ _ _ h => h) (Or.inl ⟨by rfl, by intro w hSw; go_simp⟩) hHeld ?_
      simp only [Act.put, List.setIfInBounds_toArray, List.set_cons_zero, List.set_cons_succ]
      refine wpAnyH_take (i := 1) (oi := { dst := some 18, op := Op.move (Operand.tmp 5), type := 3, pos := "exact.go:645", after := #[], guard := none }) (v := .int .i64 (k : Int)) rfl (by kernel_rfl) (by kernel_rfl) (by kernel_rfl) (fun _ _ _ h => h) (Or.inl ⟨by rfl, by intro w hSw; go_simp⟩) hHeld ?_
      simp only [Act.put, List.setIfInBounds_toArray, List.set_cons_zero, List.set_cons_succ]
      refine wpAnyH_take (i := 2) (oi := { dst := some 19, op := Op.indexAddr 24 (Operand.tmp 17) (Operand.tmp 18), type := 0, pos := "exact.go:645", after := #[⟨0, Ground.data⟩, ⟨1, Ground.data⟩], guard := none }) (v := .pointer (some ⟨b, off + k * 4, none⟩)) rfl (by kernel_rfl) (by kernel_rfl) (by kernel_rfl) (fun _ _ _ h => h) (Or.inl ⟨by rfl, by intro w hSw; go_simp⟩) hHeld ?_
      simp only [Act.put, List.setIfInBounds_toArray, List.set_cons_zero, List.set_cons_succ]
      refine wpAnyH_take (i := 3) (oi := { dst := some 20, op := Op.load 76 (Operand.tmp 19), type := 76, pos := "exact.go:645", after := #[⟨2, Ground.data⟩], guard := none }) (v := .agg (bxL x).toArray) rfl (by kernel_rfl) (by kernel_rfl) (by kernel_rfl) (fun _ _ _ h => h) (yieldsIf_load_mid (by rfl) 76 _ rfl (b) (off + k * 4) rfl (bxL x) _ (fun w h => h.1) Tryd.underlying76 rfl (by kernel_rfl)) hHeld ?_
      simp only [Act.put, List.setIfInBounds_toArray, List.set_cons_zero, List.set_cons_succ]
      refine wpAnyH_take (i := 4) (oi := { dst := some 21, op := Op.move (Operand.tmp 1), type := 24, pos := "exact.go:645", after := #[], guard := none }) (v := .slice (some ⟨b', off', none⟩) n cap') rfl (by kernel_rfl) (by kernel_rfl) (by kernel_rfl) (fun _ _ _ h => h) (Or.inl ⟨by rfl, by intro w hSw; go_simp⟩) hHeld ?_
      simp only [Act.put, List.setIfInBounds_toArray, List.set_cons_zero, List.set_cons_succ]
      refine wpAnyH_take (i := 5) (oi := { dst := some 22, op := Op.move (Operand.tmp 5), type := 3, pos := "exact.go:645", after := #[], guard := none }) (v := .int .i64 (k : Int)) rfl (by kernel_rfl) (by kernel_rfl) (by kernel_rfl) (fun _ _ _ h => h) (Or.inl ⟨by rfl, by intro w hSw; go_simp⟩) hHeld ?_
      simp only [Act.put, List.setIfInBounds_toArray, List.set_cons_zero, List.set_cons_succ]
      refine wpAnyH_take (i := 6) (oi := { dst := some 23, op := Op.indexAddr 24 (Operand.tmp 21) (Operand.tmp 22), type := 0, pos := "exact.go:645", after := #[⟨4, Ground.data⟩, ⟨5, Ground.data⟩], guard := none }) (v := .pointer (some ⟨b', off' + k * 4, none⟩)) rfl (by kernel_rfl) (by kernel_rfl) (by kernel_rfl) (fun _ _ _ h => h) (Or.inl ⟨by rfl, by intro w hSw; go_simp⟩) hHeld ?_
      simp only [Act.put, List.setIfInBounds_toArray, List.set_cons_zero, List.set_cons_succ]
      refine wpAnyH_take (i := 7) (oi := { dst := some 24, op := Op.load 76 (Operand.tmp 23), type := 76, pos := "exact.go:645", after := #[⟨6, Ground.data⟩], guard := none }) (v := .agg (bxL x).toArray) rfl (by kernel_rfl) (by kernel_rfl) (by kernel_rfl) (fun _ _ _ h => h) (yieldsIf_load_mid (by rfl) 76 _ rfl (b') (off' + k * 4) rfl (bxL x) _ (fun w h => h.2) Tryd.underlying76 rfl (by kernel_rfl)) hHeld ?_
      simp only [Act.put, List.setIfInBounds_toArray, List.set_cons_zero, List.set_cons_succ]
      refine wpAnyH_ready (rs := [8]) (by kernel_rfl) (by simp) ?_
      refine AllReadyH.cons (o := { dst := some 25, op := Op.call { callee := Callee.value (Operand.func 38), args := #[Operand.tmp 20, Operand.tmp 24], argTypes := #[76, 76] }, type := 4, pos := "exact.go:645", after := #[⟨3, Ground.data⟩, ⟨7, Ground.data⟩], guard := none }) rfl (fun K hK => ?_) AllReadyH.nil
      go_simp
      refine (EQ _).mono ?_
      rintro e w2 ⟨rfl, hb⟩
      have hx2 : w2.rangeAt b (off + k * 4) (bxL x) ∧ w2.rangeAt b' (off' + k * 4) (bxL x) := ⟨bx_below hr ⟨hb.os, hb.tape, hb.output, hb.size, hb.block⟩ lb, bx_below hs ⟨hb.os, hb.tape, hb.output, hb.size, hb.block⟩ lb'⟩
      go_wp2_with fail
      refine hK.out _ _ hx2 (fun hHeld2 => ?_)
      clear hK K
      try simp only [Act.put, List.setIfInBounds_toArray, List.set_cons_zero, List.set_cons_succ]
      refine wpAnyH_take (i := 9) (oi := { dst := some 26, op := Op.unOp UnOp.not 4 (Operand.tmp 25), type := 4, pos := "exact.go:645", after := #[⟨8, Ground.data⟩], guard := none }) (v := .bool false) rfl (by kernel_rfl) (by kernel_rfl) (by kernel_rfl) (fun _ _ _ h => h) (Or.inl ⟨by rfl, by intro w hSw; go_simp⟩) hHeld2 ?_
      simp only [Act.put, List.setIfInBounds_toArray, List.set_cons_zero, List.set_cons_succ]
      refine wpAnyH_done (by kernel_rfl) ?_ _
      have B2 : Below w.heap.size w w2 := hbw.trans (Below.mono (B := wr.heap.size) ⟨hb.os, hb.tape, hb.output, hb.size, hb.block⟩ hbw.size)
      clear hb hr hs EQ hbw hx2 hHeld hHeld2
      go_wp2
      go_roundw
      case rel => exact ⟨k + 1, by omega, by go_num, B2⟩
      case measure => simp [intOf]; omega
    · go_wp2
      go_ret
      exact ⟨rfl, hbw⟩

set_option maxHeartbeats 1000000 in
theorem eqBoxes_none (a a' : Option Addr) (cap cap' : Nat) (w : World) :
    Calls Tryd.prog 12 #[.slice a 0 cap, .slice a' 0 cap'] w fun e w' => e = .returned (.bool true) ∧ Below w.heap.size w w' := by
  go_enter Tryd.func12, Tryd.ntmps12
  go_wp2
  refine wp_loop_rounds 1 ?_
  rw [rounds_succ]
  go_wp2
  go_ret
  exact ⟨rfl, Below.refl _ _⟩

/-- eqBoxS says yes of two rows of the same boxes. -/
theorem eqBoxes (a a' : Option Addr) (cap cap' : Nat) (ns : List Bx) (w : World) (hr : BxRow w a ns) (hr' : BxRow w a' ns) (hl : ns.length ≤ 1048576) :
    Calls Tryd.prog 12 #[.slice a ns.length cap, .slice a' ns.length cap'] w fun e w' => e = .returned (.bool true) ∧ Below w.heap.size w w' := by
  rcases hr with rfl | ⟨b, off, rfl, hc⟩
  · exact eqBoxes_none a a' cap cap' w
  · rcases hr' with rfl | ⟨b', off', rfl, hd⟩
    · exact eqBoxes_none _ _ cap cap' w
    · exact eqBoxes_some b off b' off' ns.length cap cap' ns w rfl hl hc hd
end Go.Proofs.YtbphninknpfcmaaDoor

namespace Go.Proofs.YtbphninknpfcmaaDoor
open Go.ChangeShapes Go.WideShapes Go.ChangeAt Go.RowKit
set_option linter.unusedVariables false

/-- A slice of one digit's byte, as a string. -/
theorem bmark_one (m : Int) (h0 : 0 ≤ m) (h1 : m < 10) (b : Nat) (W : World) (hc : W.cell? ⟨b, 0, none⟩ = some (.int .u8 (48 + m))) :
    (convert 69 9 (.slice (some ⟨b, 0, none⟩) 1 1)).run Tryd.prog W = .ok (.string ⟨#[UInt8.ofNat (48 + m.toNat)]⟩) W := by
  have hl : (UInt8.ofNat (48 + m.toNat)).toNat = 48 + m.toNat := by
    rw [UInt8.toNat_ofNat']
    omega
  exact run_convert_bytes_back W 69 9 5 ⟨b, 0, none⟩ 1 [UInt8.ofNat (48 + m.toNat)] Tryd.underlying69 Tryd.underlying5 Tryd.underlying9 (fun j hj => by
    have : j = 0 := by simpa using hj
    subst this
    simp only [List.getElem_cons_zero, hl]
    have e : ((48 + m.toNat : Nat) : Int) = 48 + m := by omega
    rw [e]
    simpa [Addr.add] using hc)
theorem bmark_wrap8 (x : Int) (h0 : 0 ≤ x) (h1 : x ≤ 255) : IntKind.u8.wrap x = x := by
  have : IntKind.u8.wrap x = x % 256 := by simp [IntKind.wrap, IntKind.bits, IntKind.signed]
  rw [this]; omega

/-- The text of a mark. -/
def mkT : Nat → Nat → ByteArray → ByteArray
  | 0, _, acc => acc
  | f + 1, m, acc => if m = 0 then acc else mkT f (m / 10) (⟨#[UInt8.ofNat (48 + m % 10)]⟩ ++ acc)
theorem mkT_more : ∀ (f g m : Nat) (acc : ByteArray), m ≤ f → m ≤ g → mkT f m acc = mkT g m acc
  | 0, 0, m, acc, _, _ => rfl
  | 0, g + 1, m, acc, h, _ => by obtain rfl : m = 0 := by omega
                                 rfl
  | f + 1, 0, m, acc, _, h => by obtain rfl : m = 0 := by omega
                                 rfl
  | f + 1, g + 1, m, acc, h, h' => by
    rw [mkT, mkT]
    split
    · rfl
    · exact mkT_more f g (m / 10) _ (by omega) (by omega)
theorem mkT_step (m : Nat) (acc : ByteArray) (h : 0 < m) : mkT m m acc = mkT (m / 10) (m / 10) (⟨#[UInt8.ofNat (48 + m % 10)]⟩ ++ acc) := by
  obtain ⟨f, rfl⟩ : ∃ f, m = f + 1 := ⟨m - 1, by omega⟩
  rw [mkT, if_neg (by omega)]
  exact mkT_more f _ _ _ (by omega) (Nat.le_refl _)
def markT (k : Nat) : ByteArray := ⟨#[109]⟩ ++ mkT k k ByteArray.empty
theorem digit_of (r : Nat) : (48 + UInt8.ofNat r : UInt8) = UInt8.ofNat (48 + r) := by simp
set_option maxHeartbeats 2000000 in
theorem bmarkText_any (k : Nat) (w : World) (h0 : 0 < k) (h1 : k ≤ 100000000) :
    Calls Tryd.prog 40 #[.int .i64 k] w fun e w' => e = .returned (.string (markT k)) ∧ Below w.heap.size w w' := by
  have hk0 : ¬ ((k : Int) ≤ 0) := by omega
  go_enter Tryd.func40, Tryd.ntmps40
  go_wp2_with fail
  go_loopw [0, 3] (fun q s wr => ∃ (m : Nat) (t : ByteArray), q = .int .i64 m ∧ s = .string t ∧ t.size + m ≤ 100000000 ∧ mkT m m t = mkT k k ByteArray.empty ∧ Below w.heap.size w wr) (fun q _ _ => (intOf q).toNat)
  case atStart => exact ⟨k, _, rfl, rfl, by show 0 + k ≤ _; omega, rfl, Below.refl _ _⟩
  case round =>
    obtain ⟨m, t, rfl, rfl, hm, hT, hbw⟩ := hrel
    have HT : Hid (mkT m m t = mkT k k ByteArray.empty) := hT
    clear hT
    by_cases hm0 : 0 < m
    · have g0 : (0 : Int) < (m : Int) := by omega
      obtain ⟨r, hr⟩ : ∃ r : Nat, r = m % 10 := ⟨_, rfl⟩
      obtain ⟨d, hd⟩ : ∃ d : Nat, d = m / 10 := ⟨_, rfl⟩
      have e1 : (m : Int).tmod 10 = (r : Int) := by rw [Int.tmod_eq_emod_of_nonneg (by omega)]; omega
      have e2 : (m : Int).tdiv 10 = (d : Int) := by rw [Int.tdiv_eq_ediv_of_nonneg (by omega)]; omega
      have e1' : (m : Int) % 10 = (r : Int) := by omega
      have e2' : (m : Int) / 10 = (d : Int) := by omega
      have kc := bmark_one (r : Int) (by omega) (by omega)
      have w8 := bmark_wrap8 (48 + (r : Int)) (by omega) (by omega)
      have HR : Hid (r = m % 10) := hr
      have HD : Hid (d = m / 10) := hd
      have hr9 : (r : Int) ≤ 9 := by omega
      have hdm : d < m := by omega
      clear hr hd
      go_wp2
      go_roundw
      case rel => exact ⟨d, _, rfl, rfl, by rw [ByteArray.size_append]; show 1 + _ + _ ≤ _; omega, by rw [← HT.out, mkT_step m t hm0, ← HD.out, ← HR.out]; first | rfl | rw [digit_of], hbw.alloc hbw.size _⟩
      case measure => simp [intOf]; omega
    · have : m = 0 := by omega
      subst this
      go_wp2
      go_ret
      exact ⟨by unfold markT; rw [← HT.out]; rfl, hbw⟩

theorem bxn_grown_trans {w w1 w2 : World} {b : Nat} (h : w.grownBy w1 (some b)) (k : w1.grownBy w2 (some b)) : w.grownBy w2 (some b) :=
  ⟨k.os.trans h.os, k.tape.trans h.tape, k.output.trans h.output, Nat.le_trans h.size k.size, fun i hi hne => (k.block i (Nat.lt_of_lt_of_le hi h.size) hne).trans (h.block i hi hne)⟩
theorem bxn_grown_set (w : World) (b o : Nat) (v : Value) : w.grownBy (w.setCell ⟨b, o, none⟩ v) (some b) :=
  ⟨rfl, rfl, rfl, by simp, fun k _ hne => Below.heap_setCell w ⟨b, o, none⟩ v k (by simpa using hne)⟩
theorem bxn_grown_below {w w1 w2 : World} {b : Nat} (h : w.grownBy w1 (some b)) (k : Below w1.heap.size w1 w2) : w.grownBy w2 (some b) :=
  ⟨k.os.trans h.os, k.tape.trans h.tape, k.output.trans h.output, Nat.le_trans h.size k.size, fun i hi hne => (k.block i (Nat.lt_of_lt_of_le hi h.size)).trans (h.block i hi hne)⟩
theorem bxn_grown_refl (w : World) (b : Nat) : w.grownBy w (some b) := ⟨rfl, rfl, rfl, Nat.le_refl _, fun _ _ _ => rfl⟩
theorem bxn_there_lt {w : World} {g N : Nat} (h : w.there g 0 N) (h0 : 0 < N) : g < w.heap.size := by
  obtain ⟨u, hu⟩ := Option.isSome_iff_exists.1 (h 0 h0).1
  exact World.block_lt_of_cell? _ _ hu

/-- One cell stored into a row that may be written: which world it is does not matter. -/
theorem bxn_store_any {P : Program} {ops : Array Oper} {rest : List Oper} {o : Oper} {a : Act} {w : World} {Q : Exit → Act → World → Prop} (hgd : o.guard = none) (ty : TypeId) (x y : Operand) (ho : o.op = .store ty x y)
    (hd : o.dst = none) (g i N : Nat) (v : Value) (hx : a.eval x = .pointer (some ⟨g, i, none⟩)) (hy : (a.eval y).cells.toList = [v]) (hi : (P.info? ty).map (·.size) = some 1) (h1 : v.oneCell' = true)
    (ht : w.there g 0 N) (hl : i < N) (h : ∀ w', w'.there g 0 N → w.grownBy w' (some g) → wpList P ops Q rest a w') : wpList P ops Q (o :: rest) a w := by
  refine wpList_plain hgd fun K hK => ?_
  unfold Oper.wp execOp
  have hj := ht i hl
  rw [Nat.zero_add] at hj
  have hs := run_storeCells_cells (P := P) g i [v] 0 w (fun j hj' => by obtain rfl : j = 0 := (by simpa using hj'); simpa using hj.1) (fun j hj' => by obtain rfl : j = 0 := (by simpa using hj'); simpa using hj.2) (fun u hu => by rw [List.mem_singleton] at hu; subst hu; exact h1)
  simp only [Nat.add_zero] at hs
  cases hq : P.info? ty with
  | none => simp [hq] at hi
  | some inf =>
    have hsz : (a.eval y).cells.size = inf.size := by
      have := congrArg List.length hy
      simp [hq] at hi
      simp at this
      omega
    have hsv : (storeVar ty ⟨g, i, none⟩ (a.eval y)).run P w = .ok () (w.setCells g i [v]) := by
      simp [storeVar, sizeOf, typeInfo, hq, hsz, hy, hs]
    simp only [ho, hx, Instr.storeAt, Instr.sureAddr, Sem.run_bind, Sem.run_pure, Result.andThen_ok, hsv]
    refine hK _ _ ?_
    rw [hd]
    exact h _ (World.there_setCells ht _ _ _) (bxn_grown_set w g i v)

theorem range_push {w : World} {g i N : Nat} {L : List Value} {v : Value} (ht : w.there g 0 N) (hL : w.rangeAt g 0 L) (hi : i = L.length) (hN : i < N) : (w.setCells g i [v]).rangeAt g 0 (L ++ [v]) := by
  intro c u hu
  by_cases h : c < L.length
  · rw [List.getElem?_append_left h] at hu
    exact World.rangeAt_setCells_apart hL _ _ _ (by right; left; omega) c u hu
  · rw [List.getElem?_append_right (by omega)] at hu
    have hc : c = i := by
      have := (List.getElem?_eq_some_iff.1 hu).1
      simp at this
      omega
    subst hc
    have h1 : [v][0]? = some u := by rw [← hu]; congr 1; omega
    have := World.rangeAt_setCells_same w g c [v] (fun j hj => by
      have hj' : j = 0 := by simpa using hj
      subst hj'
      have := ht c hN
      rwa [Nat.zero_add] at this) 0 u h1
    rwa [Nat.zero_add]
theorem bxn_store_push {P : Program} {ops : Array Oper} {rest : List Oper} {o : Oper} {a : Act} {w : World} {Q : Exit → Act → World → Prop} (hgd : o.guard = none) (ty : TypeId) (x y : Operand) (ho : o.op = .store ty x y)
    (hd : o.dst = none) (g i N : Nat) (v : Value) (L : List Value) (hx : a.eval x = .pointer (some ⟨g, i, none⟩)) (hy : (a.eval y).cells.toList = [v]) (hi : (P.info? ty).map (·.size) = some 1) (h1 : v.oneCell' = true)
    (ht : w.there g 0 N) (hl : i < N) (hL : w.rangeAt g 0 L) (hiL : i = L.length) (h : ∀ w', w'.there g 0 N → w.grownBy w' (some g) → w'.rangeAt g 0 (L ++ [v]) → wpList P ops Q rest a w') : wpList P ops Q (o :: rest) a w := by
  refine wpList_plain hgd fun K hK => ?_
  unfold Oper.wp execOp
  have hj := ht i hl
  rw [Nat.zero_add] at hj
  have hs := run_storeCells_cells (P := P) g i [v] 0 w (fun j hj' => by obtain rfl : j = 0 := (by simpa using hj'); simpa using hj.1) (fun j hj' => by obtain rfl : j = 0 := (by simpa using hj'); simpa using hj.2) (fun u hu => by rw [List.mem_singleton] at hu; subst hu; exact h1)
  simp only [Nat.add_zero] at hs
  cases hq : P.info? ty with
  | none => simp [hq] at hi
  | some inf =>
    have hsz : (a.eval y).cells.size = inf.size := by
      have := congrArg List.length hy
      simp [hq] at hi
      simp at this
      omega
    have hsv : (storeVar ty ⟨g, i, none⟩ (a.eval y)).run P w = .ok () (w.setCells g i [v]) := by
      simp [storeVar, sizeOf, typeInfo, hq, hsz, hy, hs]
    simp only [ho, hx, Instr.storeAt, Instr.sureAddr, Sem.run_bind, Sem.run_pure, Result.andThen_ok, hsv]
    refine hK _ _ ?_
    rw [hd]
    exact h _ (World.there_setCells ht _ _ _) (bxn_grown_set w g i v) (range_push ht hL hiL hl)
end Go.Proofs.YtbphninknpfcmaaDoor

namespace Go.Proofs.YtbphninknpfcmaaDoor
open Go.ChangeShapes Go.WideShapes Go.ChangeAt Go.RowKit
set_option linter.unusedVariables false

/-- The cells of j marked boxes. -/
def flatM : Nat → List Value
  | 0 => []
  | j + 1 => flatM j ++ [.int .i64 ((1 + 4 * j : Nat) : Int)] ++ [.int .i64 ((2 + 4 * j : Nat) : Int)] ++ [.int .i64 ((3 + 4 * j : Nat) : Int)] ++ [.string (markT (4 + 4 * j))]
theorem flatM_len : ∀ j, (flatM j).length = 4 * j
  | 0 => rfl
  | j + 1 => by simp only [flatM, List.length_append, flatM_len j, List.length_singleton]; omega
theorem range_lt0 {w : World} {g : Nat} {L : List Value} (hL : w.rangeAt g 0 L) (h : 0 < L.length) : g < w.heap.size := World.block_lt_of_cell? _ ⟨g, 0, none⟩ (by simpa using hL 0 _ (List.getElem?_eq_getElem h))
theorem range_keep {B : Nat} {w w' : World} {g : Nat} {L : List Value} (hL : w.rangeAt g 0 L) (hb : Below B w w') (hB : g < B) : w'.rangeAt g 0 L := fun j v hv => (hb.cell (p := ⟨g, 0 + j, none⟩) hB).trans (hL j v hv)

set_option maxRecDepth 100000 in
set_option maxHeartbeats 8000000 in
theorem markBoxes_any (g n cap : Nat) (w : World) (hn : n ≤ 1048576) (ht : w.there g 0 (n * 4)) :
    Calls Tryd.prog 15 #[.slice (some ⟨g, 0, none⟩) n cap, .int .i64 1] w fun e w' => e = .returned (.int .i64 ((1 + 4 * n : Nat) : Int)) ∧ w.grownBy w' (some g) ∧ w'.rangeAt g 0 (flatM n) := by
  go_enter Tryd.func15, Tryd.ntmps15
  go_wp2_with fail
  go_loopw [1, 5] (fun q i wr => ∃ j : Nat, j ≤ n ∧ i = .int .i64 j ∧ q = .int .i64 ((1 + 4 * j : Nat) : Int) ∧ wr.there g 0 (n * 4) ∧ wr.rangeAt g 0 (flatM j) ∧ w.grownBy wr (some g)) (fun _ i _ => n - (intOf i).toNat)
  case atStart => exact ⟨0, Nat.zero_le _, rfl, rfl, ht, fun c v h => by simp [flatM] at h, bxn_grown_refl _ _⟩
  case round =>
    obtain ⟨j, hj, rfl, rfl, hth, hrg, hgr⟩ := hrel
    clear ht
    by_cases hlt : j < n
    · have hF := flatM_len j
      have HF : Hid (flatM (j + 1) = flatM j ++ [.int .i64 ((1 + 4 * j : Nat) : Int)] ++ [.int .i64 ((2 + 4 * j : Nat) : Int)] ++ [.int .i64 ((3 + 4 * j : Nat) : Int)] ++ [.string (markT (4 + 4 * j))]) := rfl
      obtain ⟨m, hm⟩ : ∃ m, m = 1 + 4 * j := ⟨_, rfl⟩
      have MT := bmarkText_any (m + 3)
      have e3 : markT (m + 3) = markT (4 + 4 * j) := congrArg markT (by omega)
      rw [e3] at MT
      generalize markT (4 + 4 * j) = t at MT HF
      rw [show ((2 + 4 * j : Nat) : Int) = (m : Int) + 1 by omega, show ((3 + 4 * j : Nat) : Int) = (m : Int) + 1 + 1 by omega] at HF
      rw [← hm] at HF ⊢
      rw [show ((m + 3 : Nat) : Int) = (m : Int) + 1 + 1 + 1 by omega] at MT
      generalize flatM j = L at hrg HF hF
      have hm0 : (0 : Int) ≤ (m : Int) := by omega
      have hm1 : (m : Int) ≤ 30000000 := by omega
      have HM : Hid (m = 1 + 4 * j) := hm
      have hm2 : m + 3 ≤ 30000000 := by omega
      clear hm e3
      go_wp2_with (first
        | (with_reducible show wpList _ _ _ (⟨none, Op.store 3 _ _, _, _, _, _⟩ :: _) _ _; refine bxn_store_push rfl 3 _ _ rfl rfl g _ (n * 4) _ _ rfl rfl (by kernel_rfl) rfl hth (by omega) hrg (by simp only [List.length_append, List.length_singleton, hF]; omega) ?_; intro w2 hth2 hg2 hr2; replace hgr := bxn_grown_trans hgr hg2; replace hth := hth2; replace hrg := hr2; clear hth2 hg2 hr2)
        | (with_reducible show wpList _ _ _ (⟨none, Op.store 9 _ _, _, _, _, _⟩ :: _) _ _; refine bxn_store_push rfl 9 _ _ rfl rfl g _ (n * 4) _ _ rfl rfl (by kernel_rfl) rfl hth (by omega) hrg (by simp only [List.length_append, List.length_singleton, hF]; omega) ?_; intro w2 hth2 hg2 hr2; replace hgr := bxn_grown_trans hgr hg2; replace hth := hth2; replace hrg := hr2; clear hth2 hg2 hr2)
        | (go_at_call 40; refine (MT _ (by omega) (by omega)).mono ?_; rintro e w3 ⟨rfl, hb⟩; replace hgr := bxn_grown_below hgr hb; replace hrg := range_keep hrg hb (bxn_there_lt hth (by omega)); replace hth := bx_there_below hth hb (bxn_there_lt hth (by omega)); clear hb)
        | fail)
      have hrg' : w2.rangeAt g 0 (flatM (j + 1)) := by rw [HF.out]; exact hrg
      go_roundw
      case rel => exact ⟨j + 1, by omega, by go_num, by have := HM.out; first | rfl | (congr 1; omega), hth, hrg', hgr⟩
      case measure => simp [intOf]; omega
    · have e : j = n := by omega
      subst e
      go_wp2
      go_ret
      exact ⟨rfl, hgr, hrg⟩

set_option maxRecDepth 100000 in
set_option maxHeartbeats 1000000 in
theorem markBoxes_none (a : Option Addr) (cap : Nat) (w : World) :
    Calls Tryd.prog 15 #[.slice a 0 cap, .int .i64 1] w fun e w' => e = .returned (.int .i64 1) ∧ w' = w := by
  go_enter Tryd.func15, Tryd.ntmps15
  go_wp2_with fail
  refine wp_loop_rounds 1 ?_
  rw [rounds_succ]
  go_wp2
  go_ret
  exact ⟨rfl, rfl⟩
end Go.Proofs.YtbphninknpfcmaaDoor

namespace Go.Proofs.YtbphninknpfcmaaDoor
open Go.ChangeShapes Go.WideShapes Go.ChangeAt Go.RowKit
set_option linter.unusedVariables false

theorem bx_list4 {α : Type} {cs : List α} (h : cs.length = 4) : ∃ c0 c1 c2 c3, cs = [c0, c1, c2, c3] := by
  match cs, h with
  | [c0, c1, c2, c3], _ => exact ⟨c0, c1, c2, c3, rfl⟩
theorem bx_int_cell {H : Type} {enc : TypeId × Value → H} {w : World} {base n : Nat} {spare : Nat → Bool} {held : Bool} {c : Value} {x : Option (DataW H × List MemPlace)} (hx : x.isSome = true)
    (h : DataW.trod enc Tryd.prog w base spare held n 3 [c] = x) : ∃ z : Int, c = .int .i64 z := by
  obtain ⟨y, rfl⟩ := Option.isSome_iff_exists.1 hx
  obtain ⟨z, hz, _⟩ := DataW.trod_int Tryd.underlying3 h
  exact ⟨z, by simpa using hz⟩
theorem bx_cellsNine : Tryd.prog.cellsOf 9 = 1 := by kernel_rfl
theorem cellsBoxL : Tryd.prog.cellsOf 80 = 4 := by kernel_rfl
set_option maxRecDepth 100000 in
set_option maxHeartbeats 2000000 in
theorem box_cells {H : Type} {enc : TypeId × Value → H} {w : World} {base fuel : Nat} {spare : Nat → Bool} {held : Bool} {cs : List Value} {x : DataW H × List MemPlace} 
    (h : DataW.trod enc Tryd.prog w base spare held fuel 80 cs = some x) : ∃ n : Bx, cs = bxL n ∧ n.tx.size ≤ maxLen := by
  obtain ⟨d, q⟩ := x
  obtain ⟨xs, m, _, _, hcl, hlen, hg⟩ := DataW.trod_struct Tryd.underlying80 h
  have hlen' : xs.length = 4 := hlen
  rw [cellsBoxL] at hcl
  obtain ⟨c0, c1, c2, c3, rfl⟩ := bx_list4 hcl
  have g0 := hg 0 _ rfl
  obtain ⟨z0, rfl⟩ := bx_int_cell (c := c0) (by simp; omega) g0
  have g1 := hg 1 _ rfl
  obtain ⟨z1, rfl⟩ := bx_int_cell (c := c1) (by simp; omega) g1
  have g2 := hg 2 _ rfl
  obtain ⟨z2, rfl⟩ := bx_int_cell (c := c2) (by simp; omega) g2
  have g3 := hg 3 _ rfl
  obtain ⟨y3, hy3⟩ : ∃ y, xs[3]? = some y := ⟨_, List.getElem?_eq_getElem (by omega)⟩
  rw [hy3] at g3
  obtain ⟨tx, ht, _, hs⟩ := DataW.trod_string Tryd.underlying9 g3
  have ht' : c3 = .string tx := by simpa [bx_cellsNine] using ht
  subst ht'
  exact ⟨⟨z0, z1, z2, tx⟩, rfl, hs⟩
set_option maxRecDepth 100000 in
theorem open_boxes {H : Type} {enc : TypeId × Value → H} {w : World} {base b0 : Nat} {spare : Nat → Bool} {held : Bool} {r : Reach} {v : Value} {d : DataW H} {p : List MemPlace}
    (hv : Value.okWide Tryd.prog w r b0 34 v) (h : DataW.Trod enc Tryd.prog w base spare held 34 v d p) :
    ∃ (a : Option Addr) (cap : Nat) (ns : List Bx), v = .slice a ns.length cap ∧ BxRow w a ns ∧ ns.length ≤ maxLen ∧ ∀ n ∈ ns, n.tx.size ≤ maxLen := by
  obtain ⟨a, len, cap, rfl⟩ := okWide_slice Tryd.underlying34 hv
  obtain ⟨fuel, hf⟩ := h
  rcases Go.Deep.open_slice Tryd.underlying34 hf with ⟨hcs, _⟩ | ⟨x, l, c, m, n, D, Pl, hcs, _, hl, hm, hmm, _, hx⟩
  · simp [Value.cells] at hcs
    obtain ⟨rfl, rfl, rfl⟩ := hcs
    exact ⟨none, 0, [], rfl, .inl rfl, Nat.zero_le _, fun n hn => by simp at hn⟩
  · simp [Value.cells] at hcs
    obtain ⟨rfl, rfl, rfl⟩ := hcs
    have hle : len ≤ m := by rw [hmm]; split <;> omega
    haveI : Inhabited Bx := ⟨bx0⟩
    obtain ⟨f, hfn⟩ := Go.Deep.choose_lt (α := Bx) (n := len) (p := fun i y => y.tx.size ≤ maxLen ∧ ∀ j v, (bxL y)[j]? = some v → w.cell? ((x.add (i * 4)).add j) = some v) (fun i hi => by
      obtain ⟨cs', h1, h2⟩ := hx i (by omega)
      rw [cellsBoxL] at h1
      obtain ⟨y, rfl, hy⟩ := box_cells h2
      obtain ⟨_, hlen, hcell⟩ := World.cells?_some h1
      exact ⟨y, hy, fun j v hv => (hcell j (by have := (List.getElem?_eq_some_iff.1 hv).1; rw [bxL_len] at this; exact this)).trans hv⟩)
    refine ⟨some x, cap, (List.range len).map f, by simp, ?_, by simp; omega, fun n hn => ?_⟩
    · by_cases h0 : len = 0
      · subst h0; exact .inl (by simp)
      · obtain ⟨b, off, spot⟩ := x
        have hsp : spot = none := by simpa [Addr.add] using World.cell?_spot ((hfn 0 (by omega)).2 0 _ rfl)
        subst hsp
        refine .inr ⟨b, off, rfl, fun i n hn j v hj => ?_⟩
        rw [List.getElem?_map, Option.map_eq_some_iff] at hn
        obtain ⟨i', hi', rfl⟩ := hn
        obtain ⟨hi2, rfl⟩ := List.getElem?_eq_some_iff.1 hi'
        rw [List.getElem_range] at hj
        have := (hfn i (by simpa using hi2)).2 j v hj
        rwa [Addr.add_mid, Addr.add_mid] at this
    · obtain ⟨i, hi, rfl⟩ := List.mem_map.1 hn
      exact (hfn i (List.mem_range.1 hi)).1
end Go.Proofs.YtbphninknpfcmaaDoor

namespace Go.Proofs.YtbphninknpfcmaaDoor
open Go.ChangeShapes Go.WideShapes Go.ChangeAt Go.RowKit
set_option linter.unusedVariables false

theorem flatM_pre {j : Nat} : ∀ {n : Nat}, j ≤ n → ∃ r, flatM n = flatM j ++ r
  | 0, h => by obtain rfl : j = 0 := by omega
               exact ⟨[], by simp⟩
  | n + 1, h => by
    by_cases e : j = n + 1
    · subst e; exact ⟨[], by simp⟩
    · obtain ⟨r, hr⟩ := flatM_pre (j := j) (n := n) (by omega)
      exact ⟨r ++ [.int .i64 ((1 + 4 * n : Nat) : Int)] ++ [.int .i64 ((2 + 4 * n : Nat) : Int)] ++ [.int .i64 ((3 + 4 * n : Nat) : Int)] ++ [.string (markT (4 + 4 * n))], by rw [flatM, hr]; simp⟩
theorem flatM_cells {w : World} {g n j : Nat} (h : w.rangeAt g 0 (flatM n)) (hj : j < n) :
    w.cell? ⟨g, j * 4, none⟩ = some (.int .i64 ((1 + 4 * j : Nat) : Int)) ∧ w.cell? ⟨g, j * 4 + 1, none⟩ = some (.int .i64 ((2 + 4 * j : Nat) : Int)) ∧ w.cell? ⟨g, j * 4 + 2, none⟩ = some (.int .i64 ((3 + 4 * j : Nat) : Int)) ∧ w.cell? ⟨g, j * 4 + 3, none⟩ = some (.string (markT (4 + 4 * j))) := by
  obtain ⟨r, hr⟩ := flatM_pre (j := j + 1) (n := n) (by omega)
  have hl := flatM_len j
  have at_ : ∀ c v, ([.int .i64 ((1 + 4 * j : Nat) : Int), .int .i64 ((2 + 4 * j : Nat) : Int), .int .i64 ((3 + 4 * j : Nat) : Int), .string (markT (4 + 4 * j))] : List Value)[c]? = some v → w.cell? ⟨g, j * 4 + c, none⟩ = some v := fun c v hv => by
    have := h (j * 4 + c) v (by
      rw [hr, flatM]
      simp only [List.append_assoc, List.cons_append, List.nil_append]
      rw [List.getElem?_append_right (by omega), show j * 4 + c - (flatM j).length = c by omega]
      have hc : c < 4 := by have := (List.getElem?_eq_some_iff.1 hv).1; simpa using this
      match c, hc, hv with
      | 0, _, hv => exact hv
      | 1, _, hv => exact hv
      | 2, _, hv => exact hv
      | 3, _, hv => exact hv)
    rwa [Nat.zero_add] at this
  exact ⟨at_ 0 _ rfl, at_ 1 _ rfl, at_ 2 _ rfl, at_ 3 _ rfl⟩

set_option maxRecDepth 100000 in
set_option maxHeartbeats 8000000 in
theorem heldBoxes_any (g n cap : Nat) (w : World) (hn : n ≤ 1048576) (hg : g < w.heap.size) (hr : w.rangeAt g 0 (flatM n)) :
    Calls Tryd.prog 16 #[.slice (some ⟨g, 0, none⟩) n cap, .int .i64 1] w fun e w' => e = .returned (.int .i64 ((1 + 4 * n : Nat) : Int)) ∧ Below w.heap.size w w' := by
  have HR : Hid (w.rangeAt g 0 (flatM n)) := hr
  clear hr
  go_enter Tryd.func16, Tryd.ntmps16
  go_wp2_with fail
  go_loopw [1, 5] (fun q i wr => ∃ j : Nat, j ≤ n ∧ i = .int .i64 j ∧ q = .int .i64 ((1 + 4 * j : Nat) : Int) ∧ Below w.heap.size w wr) (fun _ i _ => n - (intOf i).toNat)
  case atStart => exact ⟨0, Nat.zero_le _, rfl, rfl, Below.refl _ _⟩
  case round =>
    obtain ⟨j, hj, rfl, rfl, hbw⟩ := hrel
    by_cases hlt : j < n
    · obtain ⟨q0, q1, q2, q3⟩ := flatM_cells (range_keep HR.out hbw hg) hlt
      have hgw : g < wr.heap.size := Nat.lt_of_lt_of_le hg hbw.size
      obtain ⟨m, hm⟩ : ∃ m, m = 1 + 4 * j := ⟨_, rfl⟩
      have MT := bmarkText_any (m + 3)
      have e3 : markT (m + 3) = markT (4 + 4 * j) := congrArg markT (by omega)
      rw [e3] at MT
      generalize markT (4 + 4 * j) = t at MT q3
      rw [show ((2 + 4 * j : Nat) : Int) = (m : Int) + 1 by omega] at q1
      rw [show ((3 + 4 * j : Nat) : Int) = (m : Int) + 1 + 1 by omega] at q2
      rw [← hm] at q0 ⊢
      rw [show ((m + 3 : Nat) : Int) = (m : Int) + 1 + 1 + 1 by omega] at MT
      have hm0 : (0 : Int) ≤ (m : Int) := by omega
      have hm1 : (m : Int) ≤ 30000000 := by omega
      have HM : Hid (m = 1 + 4 * j) := hm
      have hm2 : m + 3 ≤ 30000000 := by omega
      clear hm e3
      go_wp2_with fail
      go_region_held3 (fun w' => w'.cell? ⟨g, j * 4 + 3, none⟩ = some (.string t))
        (first | exact q3 | exact hx)
        ((first
          | (go_at_call 40; refine (MT _ (by omega) (by omega)).mono ?_; rintro e w3 ⟨rfl, hb⟩; have hb' : Below wr.heap.size wr w3 := ⟨hb.os, hb.tape, hb.output, hb.size, hb.block⟩; have hx := (hb'.cell (p := ⟨g, j * 4 + 3, none⟩) hgw).trans q3)
          | fail))
      have b3 := hbw.trans (hb'.mono hbw.size)
      clear hb hb' hx q0 q1 q2 q3 MT hbw
      go_wp2
      go_roundw
      case rel => exact ⟨j + 1, by omega, by go_num, by have := HM.out; first | rfl | (congr 1; omega), b3⟩
      case measure => simp [intOf]; omega
    · have e : j = n := by omega
      subst e
      go_wp2
      go_ret
      exact ⟨rfl, hbw⟩
set_option maxHeartbeats 1000000 in
theorem heldBoxes_none (a : Option Addr) (cap : Nat) (w : World) :
    Calls Tryd.prog 16 #[.slice a 0 cap, .int .i64 1] w fun e w' => e = .returned (.int .i64 1) ∧ w' = w := by
  go_enter Tryd.func16, Tryd.ntmps16
  go_wp2_with fail
  refine wp_loop_rounds 1 ?_
  rw [rounds_succ]
  go_wp2
  go_ret
  exact ⟨rfl, rfl⟩
end Go.Proofs.YtbphninknpfcmaaDoor
