/-
  The law's own copies, sizes and comparisons of rows of nodes.
-/
import Derived.Test.YtbphninknpfcmaaDoorNdF
namespace Go.Proofs.YtbphninknpfcmaaDoor
open Go.ChangeShapes Go.WideShapes Go.ChangeAt Go.RowKit
set_option linter.unusedVariables false

set_option maxRecDepth 100000 in
set_option maxHeartbeats 2000000 in
theorem toNodes_none (a : Option Addr) (cap : Nat) (w : World) :
    Calls Tryd.prog 10 #[.slice a 0 cap] w fun e w' =>
      e = .returned (.slice (some ⟨w.heap.size, 0, none⟩) 0 0) ∧ Below w.heap.size w w' ∧ w.heap.size < w'.heap.size := by
  obtain ⟨i0, hi, hz0, hz1, hz2⟩ := info_parts infoNode
  go_enter Tryd.func10, Tryd.ntmps10
  go_wp2_with (at_make; refine wpList_make_full _ rfl (.tmp 6) (.tmp 6) 27 rfl w.heap.size 65 i0 (.agg #[.int .i64 0, .string ByteArray.empty, .int .i64 0, .int .i64 0, .int .i64 0, .bool false, .bool false, .int .i64 0, .bool false, .bool false, .int .i64 0, .int .i64 0, .int .i64 0, .int .i64 0, .bool false, .bool false, .int .i64 0, .int .i64 0, .bool false, .bool false, .int .i64 0, .int .i64 0, .int .i64 0, .int .i64 0, .int .i64 0, .int .i64 0, .int .i64 0, .int .i64 0]) 28 Tryd.underlying27 hi hz0 hz1 .i64 .i64 0 0 0 rfl rfl rfl rfl (by rw [hz2]; omega) (by unfold maxLen; omega) (Nat.le_refl _) ?_; intro w1 hown1 hgrow1)
  have hb1 := (Below.refl w.heap.size w).grown hgrow1 (Nat.le_refl _) (by intro k h; cases h)
  have hsz1 : w.heap.size < w1.heap.size := by
    rcases hown1.2 with ⟨h', _⟩ | ⟨g', cap', cur, h', _, hg, _⟩
    · simp at h'
    · simp only [Value.slice.injEq, Option.some.injEq, Addr.mk.injEq, and_true, true_and] at h'
      obtain ⟨rfl, rfl⟩ := h'
      exact lies_lt hg
  clear hgrow1 hown1
  refine wp_loop_rounds 1 ?_
  rw [rounds_succ]
  go_wp2
  go_ret
  exact ⟨rfl, hb1, hsz1⟩

/-- toNodeS hands back a new row of the same nodes. -/
theorem toNodes (a : Option Addr) (cap : Nat) (ns : List Nd) (w : World) (hr : NdRow w a ns) (hl : ns.length ≤ 1048576) :
    Calls Tryd.prog 10 #[.slice a ns.length cap] w fun e w' =>
      e = .returned (.slice (some ⟨w.heap.size, 0, none⟩) ns.length ns.length) ∧ Below w.heap.size w w' ∧ w.heap.size < w'.heap.size ∧ NdOwn w' w.heap.size ns.length ns ns.length := by
  rcases hr with rfl | ⟨b, off, rfl, hc⟩
  · exact (toNodes_none a cap w).mono fun e w' h => ⟨h.1, h.2.1, h.2.2, fun j hj => absurd hj (by simp), fun i x hi => absurd hi (by simp)⟩
  · exact toNodes_some b off ns.length cap ns w rfl hl hc

set_option maxRecDepth 100000 in
set_option maxHeartbeats 2000000 in
theorem szNode_any (n : Nd) (left : Int) (w : World) (h0 : 0 ≤ left) (h1 : left ≤ 1048576) (hs : n.tx.size ≤ maxLen) :
    Calls Tryd.prog 30 #[.agg #[.int .i64 n.up, .string n.tx, .int .i64 n.st.sh, .int .i64 n.st.fl, .int .i64 n.st.cl, .bool n.st.w.a, .bool n.st.w.p, .int .i64 n.st.w.n, .bool n.st.h.a, .bool n.st.h.p, .int .i64 n.st.h.n, .int .i64 n.st.mn, .int .i64 n.st.mx, .int .i64 n.st.mt, .bool n.st.mr.a, .bool n.st.mr.p, .int .i64 n.st.mr.n, .int .i64 n.st.mb, .bool n.st.ml.a, .bool n.st.ml.p, .int .i64 n.st.ml.n, .int .i64 n.st.bo, .int .i64 n.st.pa, .int .i64 n.st.wh, .int .i64 n.st.al, .int .i64 n.st.lh, .int .i64 n.st.ri, .int .i64 n.st.dn], .int .i64 left] w fun e w' => e = .returned (.int .i64 (if (n.tx.size : Int) ≤ left then left - (n.tx.size : Int) else -1)) ∧ Below w.heap.size w w' := by
  unfold maxLen at hs
  by_cases hlt : (n.tx.size : Int) ≤ left
  · rw [if_pos hlt]
    have hq : ¬ (left - (n.tx.size : Int) < 0) := by omega
    go_enter Tryd.func30, Tryd.ntmps30
    go_wp2
    go_ret
    exact ⟨rfl, (Below.refl _ _).alloc (Nat.le_refl _) _⟩
  · rw [if_neg hlt]
    have hq : left - (n.tx.size : Int) < 0 := by omega
    go_enter Tryd.func30, Tryd.ntmps30
    go_wp2
    go_ret
    exact ⟨rfl, (Below.refl _ _).alloc (Nat.le_refl _) _⟩

/-- What the size test says. -/
def szOk (ns : List Nd) (z : Int) : Prop := z = -1 ∨ 0 ≤ z ∧ ns.length ≤ 1048576 ∧ ∀ (i : Nat) (x : Nd), ns[i]? = some x → x.tx.size ≤ 1048576
theorem szStep {ns : List Nd} {k : Nat} {x : Nd} (hx : ns[k]? = some x) (hl : x.tx.size ≤ 1048576) (hp : ∀ (j : Nat) (x : Nd), j < k → ns[j]? = some x → x.tx.size ≤ 1048576) (j : Nat) (y : Nd) (hj : j < k + 1) (hy : ns[j]? = some y) : y.tx.size ≤ 1048576 := by
  by_cases e : j = k
  · subst e
    obtain rfl := Option.some.inj (hx.symm.trans hy)
    exact hl
  · exact hp j y (by omega) hy
set_option maxRecDepth 100000 in
set_option maxHeartbeats 2000000 in
theorem szNodes_any (a : Option Addr) (n cap : Nat) (ns : List Nd) (w : World) (hn : ns.length = n) (hr : NdRow w a ns) (hl : n ≤ maxLen) (hs : ∀ x ∈ ns, x.tx.size ≤ maxLen) :
    Calls Tryd.prog 8 #[.slice a n cap, .int .i64 1048576] w fun e w' => (∃ z : Int, e = .returned (.int .i64 z) ∧ szOk ns z) ∧ Below w.heap.size w w' := by
  unfold maxLen at hl
  by_cases hbig : (1048576 : Int) < (n : Int)
  · have hq : (1048576 : Int) - (n : Int) < 0 := by omega
    clear hr
    go_enter Tryd.func8, Tryd.ntmps8
    go_wp2
    go_ret
    exact ⟨⟨_, rfl, Or.inl rfl⟩, Below.refl _ _⟩
  have hq : ¬ ((1048576 : Int) - (n : Int) < 0) := by omega
  have HR : Hid (NdRow w a ns) := hr
  have HS : Hid (∀ x ∈ ns, x.tx.size ≤ maxLen) := hs
  clear hr hs
  go_enter Tryd.func8, Tryd.ntmps8
  go_wp2_with fail
  clear hq
  go_loopw [1, 5] (fun z i wr => ∃ (k : Nat) (l : Int), k ≤ n ∧ i = .int .i64 k ∧ z = .int .i64 l ∧ 0 ≤ l ∧ l ≤ 1048576 ∧ (∀ j x, j < k → ns[j]? = some x → x.tx.size ≤ 1048576) ∧ Below w.heap.size w wr) (fun _ i _ => n - (intOf i).toNat)
  case atStart => exact ⟨0, _, Nat.zero_le _, rfl, rfl, by omega, by omega, fun j x hj => absurd hj (by omega), Below.refl _ _⟩
  case round =>
    obtain ⟨k, l, hk, rfl, rfl, h0, h1, hp, hbw⟩ := hrel
    have HP : Hid (∀ j x, j < k → ns[j]? = some x → x.tx.size ≤ 1048576) := hp
    clear hp
    by_cases hlt : k < n
    · obtain ⟨x, hx⟩ : ∃ x, ns[k]? = some x := ⟨_, List.getElem?_eq_getElem (by omega)⟩
      obtain ⟨b, off, rfl, hc⟩ : ∃ b off, a = some ⟨b, off, none⟩ ∧ ∀ i n, ns[i]? = some n → w.rangeAt b (off + i * 28) (ndL n) := by
        rcases HR.out with h | h
        · rw [h] at hx; simp at hx
        · exact h
      have hr0 := hc k x hx
      have hr := range_below hr0 hbw (range_lt hr0)
      have SN := fun W => szNode_any x l W h0 h1 (HS.out x (List.mem_of_getElem? hx))
      clear hr0 hc HR
      by_cases hle : (x.tx.size : Int) ≤ l
      · rw [if_pos hle] at SN
        have hge : ¬ (l - (x.tx.size : Int) < 0) := by omega
        go_wp2_with (with_reducible show wpList _ _ _ (⟨some 21, Op.load 62 _, _, _, _, _⟩ :: _) _ _; refine wpList_load_mid rfl 62 _ rfl b (off + k * 28) rfl (ndL x) _ hr Tryd.underlying62 rfl (by kernel_rfl) ?_)
        refine (SN _).mono ?_
        rintro e w2 ⟨rfl, hb⟩
        have B2 := hbw.trans (hb.mono hbw.size)
        clear hr hb hbw SN
        go_wp2
        go_roundw
        case rel => exact ⟨k + 1, _, by omega, by go_num, rfl, by omega, by omega, fun j y hj hy => szStep hx (by omega) HP.out j y hj hy, B2⟩
        case measure => simp [intOf]; omega
      · rw [if_neg hle] at SN
        go_wp2_with (with_reducible show wpList _ _ _ (⟨some 21, Op.load 62 _, _, _, _, _⟩ :: _) _ _; refine wpList_load_mid rfl 62 _ rfl b (off + k * 28) rfl (ndL x) _ hr Tryd.underlying62 rfl (by kernel_rfl) ?_)
        refine (SN _).mono ?_
        rintro e w2 ⟨rfl, hb⟩
        have B2 := hbw.trans (hb.mono hbw.size)
        clear hr hb hbw SN
        go_wp2
        go_ret
        exact ⟨⟨_, rfl, Or.inl rfl⟩, B2⟩
    · go_wp2
      go_ret
      exact ⟨⟨_, rfl, Or.inr ⟨h0, by omega, fun i x hx => HP.out i x (by have := (List.getElem?_eq_some_iff.1 hx).1; omega) hx⟩⟩, hbw⟩

end Go.Proofs.YtbphninknpfcmaaDoor
