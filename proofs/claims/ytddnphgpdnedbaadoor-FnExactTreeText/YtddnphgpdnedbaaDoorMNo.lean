/-
  A slice of nodes of the law's own type that came in: what it holds.
  The law's own copies, sizes and comparisons of rows of nodes.
  The law's own comparison of a row of nodes with another of the same nodes.
-/
import Derived.Test.YtddnphgpdnedbaaDoorStyO
import Derived.Test.YtddnphgpdnedbaaDoorNdR
import Derived.Deep.Slices
import Derived.OpenShut
import Derived.Test.YtddnphgpdnedbaaDoorNdF
import Derived.Test.YtddnphgpdnedbaaDoorNdE
import Derived.Deep.RegionHeld3
namespace Go.Proofs.YtddnphgpdnedbaaDoor
open Go.ChangeShapes Go.WideShapes Go.ChangeAt Go.RowKit
set_option linter.unusedVariables false

theorem list26 {α : Type} {cs : List α} (h : cs.length = 26) : ∃ c0 c1 c2 c3 c4 c5 c6 c7 c8 c9 c10 c11 c12 c13 c14 c15 c16 c17 c18 c19 c20 c21 c22 c23 c24 c25, cs = [c0, c1, c2, c3, c4, c5, c6, c7, c8, c9, c10, c11, c12, c13, c14, c15, c16, c17, c18, c19, c20, c21, c22, c23, c24, c25] := by
  match cs, h with
  | [c0, c1, c2, c3, c4, c5, c6, c7, c8, c9, c10, c11, c12, c13, c14, c15, c16, c17, c18, c19, c20, c21, c22, c23, c24, c25], _ => exact ⟨c0, c1, c2, c3, c4, c5, c6, c7, c8, c9, c10, c11, c12, c13, c14, c15, c16, c17, c18, c19, c20, c21, c22, c23, c24, c25, rfl⟩
theorem list28 {α : Type} {cs : List α} (h : cs.length = 28) : ∃ a0 a1 c0 c1 c2 c3 c4 c5 c6 c7 c8 c9 c10 c11 c12 c13 c14 c15 c16 c17 c18 c19 c20 c21 c22 c23 c24 c25, cs = [a0, a1, c0, c1, c2, c3, c4, c5, c6, c7, c8, c9, c10, c11, c12, c13, c14, c15, c16, c17, c18, c19, c20, c21, c22, c23, c24, c25] := by
  match cs, h with
  | [a0, a1, c0, c1, c2, c3, c4, c5, c6, c7, c8, c9, c10, c11, c12, c13, c14, c15, c16, c17, c18, c19, c20, c21, c22, c23, c24, c25], _ => exact ⟨a0, a1, c0, c1, c2, c3, c4, c5, c6, c7, c8, c9, c10, c11, c12, c13, c14, c15, c16, c17, c18, c19, c20, c21, c22, c23, c24, c25, rfl⟩
theorem cellsStyleL : Tryd.prog.cellsOf 34 = 26 := by kernel_rfl
theorem cellsNine : Tryd.prog.cellsOf 9 = 1 := by kernel_rfl
theorem cellsNodeL : Tryd.prog.cellsOf 36 = 28 := by kernel_rfl
set_option maxRecDepth 100000 in
set_option maxHeartbeats 2000000 in
theorem style_cells {H : Type} {enc : TypeId × Value → H} {w : World} {base fuel : Nat} {spare : Nat → Bool} {held : Bool} {c0 c1 c2 c3 c4 c5 c6 c7 c8 c9 c10 c11 c12 c13 c14 c15 c16 c17 c18 c19 c20 c21 c22 c23 c24 c25 : Value} {x : Option (DataW H × List MemPlace)} (hx : x.isSome = true)
    (h : DataW.trod enc Tryd.prog w base spare held fuel 34 [c0, c1, c2, c3, c4, c5, c6, c7, c8, c9, c10, c11, c12, c13, c14, c15, c16, c17, c18, c19, c20, c21, c22, c23, c24, c25] = x) : ∃ s : St, [c0, c1, c2, c3, c4, c5, c6, c7, c8, c9, c10, c11, c12, c13, c14, c15, c16, c17, c18, c19, c20, c21, c22, c23, c24, c25] = [.int .i64 s.sh, .int .i64 s.fl, .int .i64 s.cl, .bool s.w.a, .bool s.w.p, .int .i64 s.w.n, .bool s.h.a, .bool s.h.p, .int .i64 s.h.n, .int .i64 s.mn, .int .i64 s.mx, .int .i64 s.mt, .bool s.mr.a, .bool s.mr.p, .int .i64 s.mr.n, .int .i64 s.mb, .bool s.ml.a, .bool s.ml.p, .int .i64 s.ml.n, .int .i64 s.bo, .int .i64 s.pa, .int .i64 s.wh, .int .i64 s.al, .int .i64 s.lh, .int .i64 s.ri, .int .i64 s.dn] := by
  obtain ⟨y, rfl⟩ := Option.isSome_iff_exists.1 hx
  obtain ⟨d, q⟩ := y
  obtain ⟨xs, m, _, _, _, hlen, hg⟩ := DataW.trod_struct Tryd.underlying34 h
  have hlen' : xs.length = 18 := hlen
  have g0 := hg 0 _ rfl
  obtain ⟨z0, rfl⟩ := int_cell (c := c0) (by simp; omega) g0
  have g1 := hg 1 _ rfl
  obtain ⟨z1, rfl⟩ := int_cell (c := c1) (by simp; omega) g1
  have g2 := hg 2 _ rfl
  obtain ⟨z2, rfl⟩ := int_cell (c := c2) (by simp; omega) g2
  have g3 := hg 3 _ rfl
  obtain ⟨z3, rfl, rfl, rfl⟩ := size_cells (c0 := c3) (c1 := c4) (c2 := c5) (by simp; omega) g3
  have g4 := hg 4 _ rfl
  obtain ⟨z4, rfl, rfl, rfl⟩ := size_cells (c0 := c6) (c1 := c7) (c2 := c8) (by simp; omega) g4
  have g5 := hg 5 _ rfl
  obtain ⟨z5, rfl⟩ := int_cell (c := c9) (by simp; omega) g5
  have g6 := hg 6 _ rfl
  obtain ⟨z6, rfl⟩ := int_cell (c := c10) (by simp; omega) g6
  have g7 := hg 7 _ rfl
  obtain ⟨z7, rfl⟩ := int_cell (c := c11) (by simp; omega) g7
  have g8 := hg 8 _ rfl
  obtain ⟨z8, rfl, rfl, rfl⟩ := size_cells (c0 := c12) (c1 := c13) (c2 := c14) (by simp; omega) g8
  have g9 := hg 9 _ rfl
  obtain ⟨z9, rfl⟩ := int_cell (c := c15) (by simp; omega) g9
  have g10 := hg 10 _ rfl
  obtain ⟨z10, rfl, rfl, rfl⟩ := size_cells (c0 := c16) (c1 := c17) (c2 := c18) (by simp; omega) g10
  have g11 := hg 11 _ rfl
  obtain ⟨z11, rfl⟩ := int_cell (c := c19) (by simp; omega) g11
  have g12 := hg 12 _ rfl
  obtain ⟨z12, rfl⟩ := int_cell (c := c20) (by simp; omega) g12
  have g13 := hg 13 _ rfl
  obtain ⟨z13, rfl⟩ := int_cell (c := c21) (by simp; omega) g13
  have g14 := hg 14 _ rfl
  obtain ⟨z14, rfl⟩ := int_cell (c := c22) (by simp; omega) g14
  have g15 := hg 15 _ rfl
  obtain ⟨z15, rfl⟩ := int_cell (c := c23) (by simp; omega) g15
  have g16 := hg 16 _ rfl
  obtain ⟨z16, rfl⟩ := int_cell (c := c24) (by simp; omega) g16
  have g17 := hg 17 _ rfl
  obtain ⟨z17, rfl⟩ := int_cell (c := c25) (by simp; omega) g17
  exact ⟨⟨z0, z1, z2, z3, z4, z5, z6, z7, z8, z9, z10, z11, z12, z13, z14, z15, z16, z17⟩, rfl⟩
set_option maxRecDepth 100000 in
set_option maxHeartbeats 2000000 in
theorem node_cells {H : Type} {enc : TypeId × Value → H} {w : World} {base fuel : Nat} {spare : Nat → Bool} {held : Bool} {cs : List Value} {x : DataW H × List MemPlace} 
    (h : DataW.trod enc Tryd.prog w base spare held fuel 36 cs = some x) : ∃ n : Nd, cs = ndL n ∧ n.tx.size ≤ maxLen := by
  obtain ⟨d, q⟩ := x
  obtain ⟨xs, m, _, _, hcl, hlen, hg⟩ := DataW.trod_struct Tryd.underlying36 h
  have hlen' : xs.length = 3 := hlen
  rw [cellsNodeL] at hcl
  obtain ⟨a0, a1, c0, c1, c2, c3, c4, c5, c6, c7, c8, c9, c10, c11, c12, c13, c14, c15, c16, c17, c18, c19, c20, c21, c22, c23, c24, c25, rfl⟩ := list28 hcl
  have g0 := hg 0 _ rfl
  obtain ⟨up, rfl⟩ := int_cell (c := a0) (by simp; omega) g0
  have g1 := hg 1 _ rfl
  obtain ⟨y1, hy1⟩ : ∃ y, xs[1]? = some y := ⟨_, List.getElem?_eq_getElem (by omega)⟩
  rw [hy1] at g1
  obtain ⟨tx, ht, _, hs⟩ := DataW.trod_string Tryd.underlying9 g1
  have ht' : a1 = .string tx := by simpa [cellsNine] using ht
  have g2 := hg 2 _ rfl
  obtain ⟨s, hs2⟩ := style_cells (c0 := c0) (c1 := c1) (c2 := c2) (c3 := c3) (c4 := c4) (c5 := c5) (c6 := c6) (c7 := c7) (c8 := c8) (c9 := c9) (c10 := c10) (c11 := c11) (c12 := c12) (c13 := c13) (c14 := c14) (c15 := c15) (c16 := c16) (c17 := c17) (c18 := c18) (c19 := c19) (c20 := c20) (c21 := c21) (c22 := c22) (c23 := c23) (c24 := c24) (c25 := c25) (by simp; omega) g2
  refine ⟨⟨up, tx, s⟩, ?_, hs⟩
  subst ht'
  show .int .i64 up :: .string tx :: [c0, c1, c2, c3, c4, c5, c6, c7, c8, c9, c10, c11, c12, c13, c14, c15, c16, c17, c18, c19, c20, c21, c22, c23, c24, c25] = _
  rw [hs2]
  rfl
set_option maxRecDepth 100000 in
theorem open_nodes {H : Type} {enc : TypeId × Value → H} {w : World} {base b0 : Nat} {spare : Nat → Bool} {held : Bool} {r : Reach} {v : Value} {d : DataW H} {p : List MemPlace}
    (hv : Value.okWide Tryd.prog w r b0 22 v) (h : DataW.Trod enc Tryd.prog w base spare held 22 v d p) :
    ∃ (a : Option Addr) (cap : Nat) (ns : List Nd), v = .slice a ns.length cap ∧ NdRow w a ns ∧ ns.length ≤ maxLen ∧ ∀ n ∈ ns, n.tx.size ≤ maxLen := by
  obtain ⟨a, len, cap, rfl⟩ := okWide_slice Tryd.underlying22 hv
  obtain ⟨fuel, hf⟩ := h
  rcases Go.Deep.open_slice Tryd.underlying22 hf with ⟨hcs, _⟩ | ⟨x, l, c, m, n, D, Pl, hcs, _, hl, hm, hmm, _, hx⟩
  · simp [Value.cells] at hcs
    obtain ⟨rfl, rfl, rfl⟩ := hcs
    exact ⟨none, 0, [], rfl, .inl rfl, Nat.zero_le _, fun n hn => by simp at hn⟩
  · simp [Value.cells] at hcs
    obtain ⟨rfl, rfl, rfl⟩ := hcs
    have hle : len ≤ m := by rw [hmm]; split <;> omega
    haveI : Inhabited Nd := ⟨nd0⟩
    obtain ⟨f, hfn⟩ := Go.Deep.choose_lt (α := Nd) (n := len) (p := fun i y => y.tx.size ≤ maxLen ∧ ∀ j v, (ndL y)[j]? = some v → w.cell? ((x.add (i * 28)).add j) = some v) (fun i hi => by
      obtain ⟨cs', h1, h2⟩ := hx i (by omega)
      rw [cellsNodeL] at h1
      obtain ⟨y, rfl, hy⟩ := node_cells h2
      obtain ⟨_, hlen, hcell⟩ := World.cells?_some h1
      exact ⟨y, hy, fun j v hv => (hcell j (by have := (List.getElem?_eq_some_iff.1 hv).1; rw [ndL_len] at this; exact this)).trans hv⟩)
    refine ⟨some x, cap, (List.range len).map f, by simp, ?_, by simp; omega, fun n hn => ?_⟩
    · by_cases h0 : len = 0
      · subst h0; exact .inl (by simp)
      · obtain ⟨b, off, spot⟩ := x
        have hsp : spot = none := by simpa [Addr.add] using World.cell?_spot ((hfn 0 (by omega)).2 0 _ rfl)
        subst hsp
        refine .inr ⟨b, off, rfl, fun i n hn j v hj => ?_⟩
        rw [List.getElem?_map, Option.map_eq_some_iff] at hn
        obtain ⟨i', hi', rfl⟩ := hn
        obtain ⟨hi2, rfl⟩ := List.getElem?_eq_some_iff.1 hi'
        rw [List.getElem_range] at hj
        have := (hfn i (by simpa using hi2)).2 j v hj
        rwa [Addr.add_mid, Addr.add_mid] at this
    · obtain ⟨i, hi, rfl⟩ := List.mem_map.1 hn
      exact (hfn i (List.mem_range.1 hi)).1
end Go.Proofs.YtddnphgpdnedbaaDoor

namespace Go.Proofs.YtddnphgpdnedbaaDoor
open Go.ChangeShapes Go.WideShapes Go.ChangeAt Go.RowKit
set_option linter.unusedVariables false

set_option maxRecDepth 100000 in
set_option maxHeartbeats 2000000 in
theorem toNodes_none (a : Option Addr) (cap : Nat) (w : World) :
    Calls Tryd.prog 6 #[.slice a 0 cap] w fun e w' =>
      e = .returned (.slice (some ⟨w.heap.size, 0, none⟩) 0 0) ∧ Below w.heap.size w w' ∧ w.heap.size < w'.heap.size := by
  obtain ⟨i0, hi, hz0, hz1, hz2⟩ := info_parts infoNode
  go_enter Tryd.func6, Tryd.ntmps6
  go_wp2_with (at_make; refine wpList_make_full _ rfl (.tmp 6) (.tmp 6) 26 rfl w.heap.size 42 i0 (.agg #[.int .i64 0, .string ByteArray.empty, .int .i64 0, .int .i64 0, .int .i64 0, .bool false, .bool false, .int .i64 0, .bool false, .bool false, .int .i64 0, .int .i64 0, .int .i64 0, .int .i64 0, .bool false, .bool false, .int .i64 0, .int .i64 0, .bool false, .bool false, .int .i64 0, .int .i64 0, .int .i64 0, .int .i64 0, .int .i64 0, .int .i64 0, .int .i64 0, .int .i64 0]) 28 Tryd.underlying26 hi hz0 hz1 .i64 .i64 0 0 0 rfl rfl rfl rfl (by rw [hz2]; omega) (by unfold maxLen; omega) (Nat.le_refl _) ?_; intro w1 hown1 hgrow1)
  have hb1 := (Below.refl w.heap.size w).grown hgrow1 (Nat.le_refl _) (by intro k h; cases h)
  have hsz1 : w.heap.size < w1.heap.size := by
    rcases hown1.2 with ⟨h', _⟩ | ⟨g', cap', cur, h', _, hg, _⟩
    · simp at h'
    · simp only [Value.slice.injEq, Option.some.injEq, Addr.mk.injEq, and_true, true_and] at h'
      obtain ⟨rfl, rfl⟩ := h'
      exact lies_lt hg
  clear hgrow1 hown1
  refine wp_loop_rounds 1 ?_
  rw [rounds_succ]
  go_wp2
  go_ret
  exact ⟨rfl, hb1, hsz1⟩

/-- toNodeS hands back a new row of the same nodes. -/
theorem toNodes (a : Option Addr) (cap : Nat) (ns : List Nd) (w : World) (hr : NdRow w a ns) (hl : ns.length ≤ 1048576) :
    Calls Tryd.prog 6 #[.slice a ns.length cap] w fun e w' =>
      e = .returned (.slice (some ⟨w.heap.size, 0, none⟩) ns.length ns.length) ∧ Below w.heap.size w w' ∧ w.heap.size < w'.heap.size ∧ NdOwn w' w.heap.size ns.length ns ns.length := by
  rcases hr with rfl | ⟨b, off, rfl, hc⟩
  · exact (toNodes_none a cap w).mono fun e w' h => ⟨h.1, h.2.1, h.2.2, fun j hj => absurd hj (by simp), fun i x hi => absurd hi (by simp)⟩
  · exact toNodes_some b off ns.length cap ns w rfl hl hc

set_option maxRecDepth 100000 in
set_option maxHeartbeats 2000000 in
theorem szNode_any (n : Nd) (left : Int) (w : World) (h0 : 0 ≤ left) (h1 : left ≤ 1048576) (hs : n.tx.size ≤ maxLen) :
    Calls Tryd.prog 9 #[.agg #[.int .i64 n.up, .string n.tx, .int .i64 n.st.sh, .int .i64 n.st.fl, .int .i64 n.st.cl, .bool n.st.w.a, .bool n.st.w.p, .int .i64 n.st.w.n, .bool n.st.h.a, .bool n.st.h.p, .int .i64 n.st.h.n, .int .i64 n.st.mn, .int .i64 n.st.mx, .int .i64 n.st.mt, .bool n.st.mr.a, .bool n.st.mr.p, .int .i64 n.st.mr.n, .int .i64 n.st.mb, .bool n.st.ml.a, .bool n.st.ml.p, .int .i64 n.st.ml.n, .int .i64 n.st.bo, .int .i64 n.st.pa, .int .i64 n.st.wh, .int .i64 n.st.al, .int .i64 n.st.lh, .int .i64 n.st.ri, .int .i64 n.st.dn], .int .i64 left] w fun e w' => e = .returned (.int .i64 (if (n.tx.size : Int) ≤ left then left - (n.tx.size : Int) else -1)) ∧ Below w.heap.size w w' := by
  unfold maxLen at hs
  by_cases hlt : (n.tx.size : Int) ≤ left
  · rw [if_pos hlt]
    have hq : ¬ (left - (n.tx.size : Int) < 0) := by omega
    go_enter Tryd.func9, Tryd.ntmps9
    go_wp2
    go_ret
    exact ⟨rfl, (Below.refl _ _).alloc (Nat.le_refl _) _⟩
  · rw [if_neg hlt]
    have hq : left - (n.tx.size : Int) < 0 := by omega
    go_enter Tryd.func9, Tryd.ntmps9
    go_wp2
    go_ret
    exact ⟨rfl, (Below.refl _ _).alloc (Nat.le_refl _) _⟩

/-- What the size test says. -/
def szOk (ns : List Nd) (z : Int) : Prop := z = -1 ∨ 0 ≤ z ∧ ns.length ≤ 1048576 ∧ ∀ (i : Nat) (x : Nd), ns[i]? = some x → x.tx.size ≤ 1048576
theorem szStep {ns : List Nd} {k : Nat} {x : Nd} (hx : ns[k]? = some x) (hl : x.tx.size ≤ 1048576) (hp : ∀ (j : Nat) (x : Nd), j < k → ns[j]? = some x → x.tx.size ≤ 1048576) (j : Nat) (y : Nd) (hj : j < k + 1) (hy : ns[j]? = some y) : y.tx.size ≤ 1048576 := by
  by_cases e : j = k
  · subst e
    obtain rfl := Option.some.inj (hx.symm.trans hy)
    exact hl
  · exact hp j y (by omega) hy
set_option maxRecDepth 100000 in
set_option maxHeartbeats 2000000 in
theorem szNodes_any (a : Option Addr) (n cap : Nat) (ns : List Nd) (w : World) (hn : ns.length = n) (hr : NdRow w a ns) (hl : n ≤ maxLen) (hs : ∀ x ∈ ns, x.tx.size ≤ maxLen) :
    Calls Tryd.prog 4 #[.slice a n cap, .int .i64 1048576] w fun e w' => (∃ z : Int, e = .returned (.int .i64 z) ∧ szOk ns z) ∧ Below w.heap.size w w' := by
  unfold maxLen at hl
  by_cases hbig : (1048576 : Int) < (n : Int)
  · have hq : (1048576 : Int) - (n : Int) < 0 := by omega
    clear hr
    go_enter Tryd.func4, Tryd.ntmps4
    go_wp2
    go_ret
    exact ⟨⟨_, rfl, Or.inl rfl⟩, Below.refl _ _⟩
  have hq : ¬ ((1048576 : Int) - (n : Int) < 0) := by omega
  have HR : Hid (NdRow w a ns) := hr
  have HS : Hid (∀ x ∈ ns, x.tx.size ≤ maxLen) := hs
  clear hr hs
  go_enter Tryd.func4, Tryd.ntmps4
  go_wp2_with fail
  clear hq
  go_loopw [1, 5] (fun z i wr => ∃ (k : Nat) (l : Int), k ≤ n ∧ i = .int .i64 k ∧ z = .int .i64 l ∧ 0 ≤ l ∧ l ≤ 1048576 ∧ (∀ j x, j < k → ns[j]? = some x → x.tx.size ≤ 1048576) ∧ Below w.heap.size w wr) (fun _ i _ => n - (intOf i).toNat)
  case atStart => exact ⟨0, _, Nat.zero_le _, rfl, rfl, by omega, by omega, fun j x hj => absurd hj (by omega), Below.refl _ _⟩
  case round =>
    obtain ⟨k, l, hk, rfl, rfl, h0, h1, hp, hbw⟩ := hrel
    have HP : Hid (∀ j x, j < k → ns[j]? = some x → x.tx.size ≤ 1048576) := hp
    clear hp
    by_cases hlt : k < n
    · obtain ⟨x, hx⟩ : ∃ x, ns[k]? = some x := ⟨_, List.getElem?_eq_getElem (by omega)⟩
      obtain ⟨b, off, rfl, hc⟩ : ∃ b off, a = some ⟨b, off, none⟩ ∧ ∀ i n, ns[i]? = some n → w.rangeAt b (off + i * 28) (ndL n) := by
        rcases HR.out with h | h
        · rw [h] at hx; simp at hx
        · exact h
      have hr0 := hc k x hx
      have hr := range_below hr0 hbw (range_lt hr0)
      have SN := fun W => szNode_any x l W h0 h1 (HS.out x (List.mem_of_getElem? hx))
      clear hr0 hc HR
      by_cases hle : (x.tx.size : Int) ≤ l
      · rw [if_pos hle] at SN
        have hge : ¬ (l - (x.tx.size : Int) < 0) := by omega
        go_wp2_with (with_reducible show wpList _ _ _ (⟨some 21, Op.load 36 _, _, _, _, _⟩ :: _) _ _; refine wpList_load_mid rfl 36 _ rfl b (off + k * 28) rfl (ndL x) _ hr Tryd.underlying36 rfl (by kernel_rfl) ?_)
        refine (SN _).mono ?_
        rintro e w2 ⟨rfl, hb⟩
        have B2 := hbw.trans (hb.mono hbw.size)
        clear hr hb hbw SN
        go_wp2
        go_roundw
        case rel => exact ⟨k + 1, _, by omega, by go_num, rfl, by omega, by omega, fun j y hj hy => szStep hx (by omega) HP.out j y hj hy, B2⟩
        case measure => simp [intOf]; omega
      · rw [if_neg hle] at SN
        go_wp2_with (with_reducible show wpList _ _ _ (⟨some 21, Op.load 36 _, _, _, _, _⟩ :: _) _ _; refine wpList_load_mid rfl 36 _ rfl b (off + k * 28) rfl (ndL x) _ hr Tryd.underlying36 rfl (by kernel_rfl) ?_)
        refine (SN _).mono ?_
        rintro e w2 ⟨rfl, hb⟩
        have B2 := hbw.trans (hb.mono hbw.size)
        clear hr hb hbw SN
        go_wp2
        go_ret
        exact ⟨⟨_, rfl, Or.inl rfl⟩, B2⟩
    · go_wp2
      go_ret
      exact ⟨⟨_, rfl, Or.inr ⟨h0, by omega, fun i x hx => HP.out i x (by have := (List.getElem?_eq_some_iff.1 hx).1; omega) hx⟩⟩, hbw⟩

end Go.Proofs.YtddnphgpdnedbaaDoor

namespace Go.Proofs.YtddnphgpdnedbaaDoor
open Go.ChangeShapes Go.WideShapes Go.ChangeAt Go.RowKit
set_option linter.unusedVariables false

theorem load_node {w : World} {b o : Nat} {x : Nd} (h : w.rangeAt b o (ndL x)) : (Instr.loadAt 42 (.pointer (some ⟨b, o, none⟩))).run Tryd.prog w = .ok (.agg (ndL x).toArray) w :=
  run_loadAt_mid w b o 42 (ndL x) _ h Tryd.underlying42 rfl (by kernel_rfl)

set_option maxRecDepth 100000 in
set_option maxHeartbeats 4000000 in
theorem eqNodes_some (b off b' off' n cap cap' : Nat) (ns : List Nd) (w : World) (hn : ns.length = n) (hl : n ≤ 1048576)
    (hc : ∀ i x, ns[i]? = some x → w.rangeAt b (off + i * 28) (ndL x)) (hd : ∀ i x, ns[i]? = some x → w.rangeAt b' (off' + i * 28) (ndL x)) :
    Calls Tryd.prog 8 #[.slice (some ⟨b, off, none⟩) n cap, .slice (some ⟨b', off', none⟩) n cap'] w fun e w' => e = .returned (.bool true) ∧ Below w.heap.size w w' := by
  have HC : Hid (∀ i x, ns[i]? = some x → w.rangeAt b (off + i * 28) (ndL x)) := hc
  have HD : Hid (∀ i x, ns[i]? = some x → w.rangeAt b' (off' + i * 28) (ndL x)) := hd
  clear hc hd
  go_enter Tryd.func8, Tryd.ntmps8
  go_wp2
  go_loopw [5] (fun i wr => ∃ k : Nat, k ≤ n ∧ i = .int .i64 k ∧ Below w.heap.size w wr) (fun i _ => n - (intOf i).toNat)
  case atStart => exact ⟨0, Nat.zero_le _, rfl, Below.refl _ _⟩
  case round =>
    obtain ⟨k, hk, rfl, hbw⟩ := hrel
    by_cases hlt : k < n
    · obtain ⟨x, hx⟩ : ∃ x, ns[k]? = some x := ⟨_, List.getElem?_eq_getElem (by omega)⟩
      have hr := range_below (HC.out k x hx) hbw (range_lt (HC.out k x hx))
      have hs := range_below (HD.out k x hx) hbw (range_lt (HD.out k x hx))
      have lb := range_lt hr
      have lb' := range_lt hs
      have EQ := fun W => eqNode_same x W
      have hlt' : (k : Int) < (n : Int) := by omega
      clear HC HD
      go_wp2
      refine wp_region_held_drew (S := fun w' => w'.rangeAt b (off + k * 28) (ndL x) ∧ w'.rangeAt b' (off' + k * 28) (ndL x)) (by kernel_rfl) ⟨(World.rangeAt_drew _ _ _ _).2 hr, (World.rangeAt_drew _ _ _ _).2 hs⟩ (fun hHeld => ?_)
      refine wpAnyH_take (i := 0) (oi := { dst := some 17, op := Op.move (Operand.tmp 0), type := 26, pos := "exact.go:276", after := #[], guard := none }) (v := .slice (some ⟨b, off, none⟩) n cap) rfl (by kernel_rfl) (by kernel_rfl) (by kernel_rfl) (fun _ _ _ h => h) (Or.inl ⟨by rfl, by intro w hSw; go_simp⟩) hHeld ?_
      simp only [Act.put, List.setIfInBounds_toArray, List.set_cons_zero, List.set_cons_succ]
      refine wpAnyH_take (i := 1) (oi := { dst := some 18, op := Op.move (Operand.tmp 5), type := 3, pos := "exact.go:276", after := #[], guard := none }) (v := .int .i64 (k : Int)) rfl (by kernel_rfl) (by kernel_rfl) (by kernel_rfl) (fun _ _ _ h => h) (Or.inl ⟨by rfl, by intro w hSw; go_simp⟩) hHeld ?_
      simp only [Act.put, List.setIfInBounds_toArray, List.set_cons_zero, List.set_cons_succ]
      refine wpAnyH_take (i := 2) (oi := { dst := some 19, op := Op.indexAddr 26 (Operand.tmp 17) (Operand.tmp 18), type := 0, pos := "exact.go:276", after := #[⟨0, Ground.data⟩, ⟨1, Ground.data⟩], guard := none }) (v := .pointer (some ⟨b, off + k * 28, none⟩)) rfl (by kernel_rfl) (by kernel_rfl) (by kernel_rfl) (fun _ _ _ h => h) (Or.inl ⟨by rfl, by intro w hSw; go_simp⟩) hHeld ?_
      simp only [Act.put, List.setIfInBounds_toArray, List.set_cons_zero, List.set_cons_succ]
      refine wpAnyH_take (i := 3) (oi := { dst := some 20, op := Op.load 42 (Operand.tmp 19), type := 42, pos := "exact.go:276", after := #[⟨2, Ground.data⟩], guard := none }) (v := .agg (ndL x).toArray) rfl (by kernel_rfl) (by kernel_rfl) (by kernel_rfl) (fun _ _ _ h => h) (yieldsIf_load_mid (by rfl) 42 _ rfl (b) (off + k * 28) rfl (ndL x) _ (fun w h => h.1) Tryd.underlying42 rfl (by kernel_rfl)) hHeld ?_
      simp only [Act.put, List.setIfInBounds_toArray, List.set_cons_zero, List.set_cons_succ]
      refine wpAnyH_take (i := 4) (oi := { dst := some 21, op := Op.move (Operand.tmp 1), type := 26, pos := "exact.go:276", after := #[], guard := none }) (v := .slice (some ⟨b', off', none⟩) n cap') rfl (by kernel_rfl) (by kernel_rfl) (by kernel_rfl) (fun _ _ _ h => h) (Or.inl ⟨by rfl, by intro w hSw; go_simp⟩) hHeld ?_
      simp only [Act.put, List.setIfInBounds_toArray, List.set_cons_zero, List.set_cons_succ]
      refine wpAnyH_take (i := 5) (oi := { dst := some 22, op := Op.move (Operand.tmp 5), type := 3, pos := "exact.go:276", after := #[], guard := none }) (v := .int .i64 (k : Int)) rfl (by kernel_rfl) (by kernel_rfl) (by kernel_rfl) (fun _ _ _ h => h) (Or.inl ⟨by rfl, by intro w hSw; go_simp⟩) hHeld ?_
      simp only [Act.put, List.setIfInBounds_toArray, List.set_cons_zero, List.set_cons_succ]
      refine wpAnyH_take (i := 6) (oi := { dst := some 23, op := Op.indexAddr 26 (Operand.tmp 21) (Operand.tmp 22), type := 0, pos := "exact.go:276", after := #[⟨4, Ground.data⟩, ⟨5, Ground.data⟩], guard := none }) (v := .pointer (some ⟨b', off' + k * 28, none⟩)) rfl (by kernel_rfl) (by kernel_rfl) (by kernel_rfl) (fun _ _ _ h => h) (Or.inl ⟨by rfl, by intro w hSw; go_simp⟩) hHeld ?_
      simp only [Act.put, List.setIfInBounds_toArray, List.set_cons_zero, List.set_cons_succ]
      refine wpAnyH_take (i := 7) (oi := { dst := some 24, op := Op.load 42 (Operand.tmp 23), type := 42, pos := "exact.go:276", after := #[⟨6, Ground.data⟩], guard := none }) (v := .agg (ndL x).toArray) rfl (by kernel_rfl) (by kernel_rfl) (by kernel_rfl) (fun _ _ _ h => h) (yieldsIf_load_mid (by rfl) 42 _ rfl (b') (off' + k * 28) rfl (ndL x) _ (fun w h => h.2) Tryd.underlying42 rfl (by kernel_rfl)) hHeld ?_
      simp only [Act.put, List.setIfInBounds_toArray, List.set_cons_zero, List.set_cons_succ]
      refine wpAnyH_ready (rs := [8]) (by kernel_rfl) (by simp) ?_
      refine AllReadyH.cons (o := { dst := some 25, op := Op.call { callee := Callee.value (Operand.func 22), args := #[Operand.tmp 20, Operand.tmp 24], argTypes := #[42, 42] }, type := 4, pos := "exact.go:276", after := #[⟨3, Ground.data⟩, ⟨7, Ground.data⟩], guard := none }) rfl (fun K hK => ?_) AllReadyH.nil
      go_simp
      refine (EQ _).mono ?_
      rintro e w2 ⟨rfl, hb⟩
      have hx2 : w2.rangeAt b (off + k * 28) (ndL x) ∧ w2.rangeAt b' (off' + k * 28) (ndL x) := ⟨range_below hr ⟨hb.os, hb.tape, hb.output, hb.size, hb.block⟩ lb, range_below hs ⟨hb.os, hb.tape, hb.output, hb.size, hb.block⟩ lb'⟩
      go_wp2_with fail
      refine hK.out _ _ hx2 (fun hHeld2 => ?_)
      clear hK K
      try simp only [Act.put, List.setIfInBounds_toArray, List.set_cons_zero, List.set_cons_succ]
      refine wpAnyH_take (i := 9) (oi := { dst := some 26, op := Op.unOp UnOp.not 4 (Operand.tmp 25), type := 4, pos := "exact.go:276", after := #[⟨8, Ground.data⟩], guard := none }) (v := .bool false) rfl (by kernel_rfl) (by kernel_rfl) (by kernel_rfl) (fun _ _ _ h => h) (Or.inl ⟨by rfl, by intro w hSw; go_simp⟩) hHeld2 ?_
      simp only [Act.put, List.setIfInBounds_toArray, List.set_cons_zero, List.set_cons_succ]
      refine wpAnyH_done (by kernel_rfl) ?_ _
      have B2 : Below w.heap.size w w2 := hbw.trans (Below.mono (B := wr.heap.size) ⟨hb.os, hb.tape, hb.output, hb.size, hb.block⟩ hbw.size)
      clear hb hr hs EQ hbw hx2 hHeld hHeld2
      go_wp2
      go_roundw
      case rel => exact ⟨k + 1, by omega, by go_num, B2⟩
      case measure => simp [intOf]; omega
    · go_wp2
      go_ret
      exact ⟨rfl, hbw⟩

set_option maxHeartbeats 1000000 in
theorem eqNodes_none (a a' : Option Addr) (cap cap' : Nat) (w : World) :
    Calls Tryd.prog 8 #[.slice a 0 cap, .slice a' 0 cap'] w fun e w' => e = .returned (.bool true) ∧ Below w.heap.size w w' := by
  go_enter Tryd.func8, Tryd.ntmps8
  go_wp2
  refine wp_loop_rounds 1 ?_
  rw [rounds_succ]
  go_wp2
  go_ret
  exact ⟨rfl, Below.refl _ _⟩

/-- eqNodeS says yes of two rows of the same nodes. -/
theorem eqNodes (a a' : Option Addr) (cap cap' : Nat) (ns : List Nd) (w : World) (hr : NdRow w a ns) (hr' : NdRow w a' ns) (hl : ns.length ≤ 1048576) :
    Calls Tryd.prog 8 #[.slice a ns.length cap, .slice a' ns.length cap'] w fun e w' => e = .returned (.bool true) ∧ Below w.heap.size w w' := by
  rcases hr with rfl | ⟨b, off, rfl, hc⟩
  · exact eqNodes_none a a' cap cap' w
  · rcases hr' with rfl | ⟨b', off', rfl, hd⟩
    · exact eqNodes_none _ _ cap cap' w
    · exact eqNodes_some b off b' off' ns.length cap cap' ns w rfl hl hc hd
end Go.Proofs.YtddnphgpdnedbaaDoor
