/-
  A slice of nodes of the law's own type that came in: what it holds.
-/
import Derived.Test.YtbphninknpfcmaaDoorStyO
import Derived.Test.YtbphninknpfcmaaDoorNdR
import Derived.Deep.Slices
import Derived.OpenShut
namespace Go.Proofs.YtbphninknpfcmaaDoor
open Go.ChangeShapes Go.WideShapes Go.ChangeAt Go.RowKit
set_option linter.unusedVariables false

theorem list26 {α : Type} {cs : List α} (h : cs.length = 26) : ∃ c0 c1 c2 c3 c4 c5 c6 c7 c8 c9 c10 c11 c12 c13 c14 c15 c16 c17 c18 c19 c20 c21 c22 c23 c24 c25, cs = [c0, c1, c2, c3, c4, c5, c6, c7, c8, c9, c10, c11, c12, c13, c14, c15, c16, c17, c18, c19, c20, c21, c22, c23, c24, c25] := by
  match cs, h with
  | [c0, c1, c2, c3, c4, c5, c6, c7, c8, c9, c10, c11, c12, c13, c14, c15, c16, c17, c18, c19, c20, c21, c22, c23, c24, c25], _ => exact ⟨c0, c1, c2, c3, c4, c5, c6, c7, c8, c9, c10, c11, c12, c13, c14, c15, c16, c17, c18, c19, c20, c21, c22, c23, c24, c25, rfl⟩
theorem list28 {α : Type} {cs : List α} (h : cs.length = 28) : ∃ a0 a1 c0 c1 c2 c3 c4 c5 c6 c7 c8 c9 c10 c11 c12 c13 c14 c15 c16 c17 c18 c19 c20 c21 c22 c23 c24 c25, cs = [a0, a1, c0, c1, c2, c3, c4, c5, c6, c7, c8, c9, c10, c11, c12, c13, c14, c15, c16, c17, c18, c19, c20, c21, c22, c23, c24, c25] := by
  match cs, h with
  | [a0, a1, c0, c1, c2, c3, c4, c5, c6, c7, c8, c9, c10, c11, c12, c13, c14, c15, c16, c17, c18, c19, c20, c21, c22, c23, c24, c25], _ => exact ⟨a0, a1, c0, c1, c2, c3, c4, c5, c6, c7, c8, c9, c10, c11, c12, c13, c14, c15, c16, c17, c18, c19, c20, c21, c22, c23, c24, c25, rfl⟩
theorem cellsStyleL : Tryd.prog.cellsOf 42 = 26 := by kernel_rfl
theorem cellsNine : Tryd.prog.cellsOf 9 = 1 := by kernel_rfl
theorem cellsNodeL : Tryd.prog.cellsOf 62 = 28 := by kernel_rfl
set_option maxRecDepth 100000 in
set_option maxHeartbeats 2000000 in
theorem style_cells {H : Type} {enc : TypeId × Value → H} {w : World} {base fuel : Nat} {spare : Nat → Bool} {held : Bool} {c0 c1 c2 c3 c4 c5 c6 c7 c8 c9 c10 c11 c12 c13 c14 c15 c16 c17 c18 c19 c20 c21 c22 c23 c24 c25 : Value} {x : Option (DataW H × List MemPlace)} (hx : x.isSome = true)
    (h : DataW.trod enc Tryd.prog w base spare held fuel 42 [c0, c1, c2, c3, c4, c5, c6, c7, c8, c9, c10, c11, c12, c13, c14, c15, c16, c17, c18, c19, c20, c21, c22, c23, c24, c25] = x) : ∃ s : St, [c0, c1, c2, c3, c4, c5, c6, c7, c8, c9, c10, c11, c12, c13, c14, c15, c16, c17, c18, c19, c20, c21, c22, c23, c24, c25] = [.int .i64 s.sh, .int .i64 s.fl, .int .i64 s.cl, .bool s.w.a, .bool s.w.p, .int .i64 s.w.n, .bool s.h.a, .bool s.h.p, .int .i64 s.h.n, .int .i64 s.mn, .int .i64 s.mx, .int .i64 s.mt, .bool s.mr.a, .bool s.mr.p, .int .i64 s.mr.n, .int .i64 s.mb, .bool s.ml.a, .bool s.ml.p, .int .i64 s.ml.n, .int .i64 s.bo, .int .i64 s.pa, .int .i64 s.wh, .int .i64 s.al, .int .i64 s.lh, .int .i64 s.ri, .int .i64 s.dn] := by
  obtain ⟨y, rfl⟩ := Option.isSome_iff_exists.1 hx
  obtain ⟨d, q⟩ := y
  obtain ⟨xs, m, _, _, _, hlen, hg⟩ := DataW.trod_struct Tryd.underlying42 h
  have hlen' : xs.length = 18 := hlen
  have g0 := hg 0 _ rfl
  obtain ⟨z0, rfl⟩ := int_cell (c := c0) (by simp; omega) g0
  have g1 := hg 1 _ rfl
  obtain ⟨z1, rfl⟩ := int_cell (c := c1) (by simp; omega) g1
  have g2 := hg 2 _ rfl
  obtain ⟨z2, rfl⟩ := int_cell (c := c2) (by simp; omega) g2
  have g3 := hg 3 _ rfl
  obtain ⟨z3, rfl, rfl, rfl⟩ := size_cells (c0 := c3) (c1 := c4) (c2 := c5) (by simp; omega) g3
  have g4 := hg 4 _ rfl
  obtain ⟨z4, rfl, rfl, rfl⟩ := size_cells (c0 := c6) (c1 := c7) (c2 := c8) (by simp; omega) g4
  have g5 := hg 5 _ rfl
  obtain ⟨z5, rfl⟩ := int_cell (c := c9) (by simp; omega) g5
  have g6 := hg 6 _ rfl
  obtain ⟨z6, rfl⟩ := int_cell (c := c10) (by simp; omega) g6
  have g7 := hg 7 _ rfl
  obtain ⟨z7, rfl⟩ := int_cell (c := c11) (by simp; omega) g7
  have g8 := hg 8 _ rfl
  obtain ⟨z8, rfl, rfl, rfl⟩ := size_cells (c0 := c12) (c1 := c13) (c2 := c14) (by simp; omega) g8
  have g9 := hg 9 _ rfl
  obtain ⟨z9, rfl⟩ := int_cell (c := c15) (by simp; omega) g9
  have g10 := hg 10 _ rfl
  obtain ⟨z10, rfl, rfl, rfl⟩ := size_cells (c0 := c16) (c1 := c17) (c2 := c18) (by simp; omega) g10
  have g11 := hg 11 _ rfl
  obtain ⟨z11, rfl⟩ := int_cell (c := c19) (by simp; omega) g11
  have g12 := hg 12 _ rfl
  obtain ⟨z12, rfl⟩ := int_cell (c := c20) (by simp; omega) g12
  have g13 := hg 13 _ rfl
  obtain ⟨z13, rfl⟩ := int_cell (c := c21) (by simp; omega) g13
  have g14 := hg 14 _ rfl
  obtain ⟨z14, rfl⟩ := int_cell (c := c22) (by simp; omega) g14
  have g15 := hg 15 _ rfl
  obtain ⟨z15, rfl⟩ := int_cell (c := c23) (by simp; omega) g15
  have g16 := hg 16 _ rfl
  obtain ⟨z16, rfl⟩ := int_cell (c := c24) (by simp; omega) g16
  have g17 := hg 17 _ rfl
  obtain ⟨z17, rfl⟩ := int_cell (c := c25) (by simp; omega) g17
  exact ⟨⟨z0, z1, z2, z3, z4, z5, z6, z7, z8, z9, z10, z11, z12, z13, z14, z15, z16, z17⟩, rfl⟩
set_option maxRecDepth 100000 in
set_option maxHeartbeats 2000000 in
theorem node_cells {H : Type} {enc : TypeId × Value → H} {w : World} {base fuel : Nat} {spare : Nat → Bool} {held : Bool} {cs : List Value} {x : DataW H × List MemPlace} 
    (h : DataW.trod enc Tryd.prog w base spare held fuel 62 cs = some x) : ∃ n : Nd, cs = ndL n ∧ n.tx.size ≤ maxLen := by
  obtain ⟨d, q⟩ := x
  obtain ⟨xs, m, _, _, hcl, hlen, hg⟩ := DataW.trod_struct Tryd.underlying62 h
  have hlen' : xs.length = 3 := hlen
  rw [cellsNodeL] at hcl
  obtain ⟨a0, a1, c0, c1, c2, c3, c4, c5, c6, c7, c8, c9, c10, c11, c12, c13, c14, c15, c16, c17, c18, c19, c20, c21, c22, c23, c24, c25, rfl⟩ := list28 hcl
  have g0 := hg 0 _ rfl
  obtain ⟨up, rfl⟩ := int_cell (c := a0) (by simp; omega) g0
  have g1 := hg 1 _ rfl
  obtain ⟨y1, hy1⟩ : ∃ y, xs[1]? = some y := ⟨_, List.getElem?_eq_getElem (by omega)⟩
  rw [hy1] at g1
  obtain ⟨tx, ht, _, hs⟩ := DataW.trod_string Tryd.underlying9 g1
  have ht' : a1 = .string tx := by simpa [cellsNine] using ht
  have g2 := hg 2 _ rfl
  obtain ⟨s, hs2⟩ := style_cells (c0 := c0) (c1 := c1) (c2 := c2) (c3 := c3) (c4 := c4) (c5 := c5) (c6 := c6) (c7 := c7) (c8 := c8) (c9 := c9) (c10 := c10) (c11 := c11) (c12 := c12) (c13 := c13) (c14 := c14) (c15 := c15) (c16 := c16) (c17 := c17) (c18 := c18) (c19 := c19) (c20 := c20) (c21 := c21) (c22 := c22) (c23 := c23) (c24 := c24) (c25 := c25) (by simp; omega) g2
  refine ⟨⟨up, tx, s⟩, ?_, hs⟩
  subst ht'
  show .int .i64 up :: .string tx :: [c0, c1, c2, c3, c4, c5, c6, c7, c8, c9, c10, c11, c12, c13, c14, c15, c16, c17, c18, c19, c20, c21, c22, c23, c24, c25] = _
  rw [hs2]
  rfl
set_option maxRecDepth 100000 in
theorem open_nodes {H : Type} {enc : TypeId × Value → H} {w : World} {base b0 : Nat} {spare : Nat → Bool} {held : Bool} {r : Reach} {v : Value} {d : DataW H} {p : List MemPlace}
    (hv : Value.okWide Tryd.prog w r b0 22 v) (h : DataW.Trod enc Tryd.prog w base spare held 22 v d p) :
    ∃ (a : Option Addr) (cap : Nat) (ns : List Nd), v = .slice a ns.length cap ∧ NdRow w a ns ∧ ns.length ≤ maxLen ∧ ∀ n ∈ ns, n.tx.size ≤ maxLen := by
  obtain ⟨a, len, cap, rfl⟩ := okWide_slice Tryd.underlying22 hv
  obtain ⟨fuel, hf⟩ := h
  rcases Go.Deep.open_slice Tryd.underlying22 hf with ⟨hcs, _⟩ | ⟨x, l, c, m, n, D, Pl, hcs, _, hl, hm, hmm, _, hx⟩
  · simp [Value.cells] at hcs
    obtain ⟨rfl, rfl, rfl⟩ := hcs
    exact ⟨none, 0, [], rfl, .inl rfl, Nat.zero_le _, fun n hn => by simp at hn⟩
  · simp [Value.cells] at hcs
    obtain ⟨rfl, rfl, rfl⟩ := hcs
    have hle : len ≤ m := by rw [hmm]; split <;> omega
    haveI : Inhabited Nd := ⟨nd0⟩
    obtain ⟨f, hfn⟩ := Go.Deep.choose_lt (α := Nd) (n := len) (p := fun i y => y.tx.size ≤ maxLen ∧ ∀ j v, (ndL y)[j]? = some v → w.cell? ((x.add (i * 28)).add j) = some v) (fun i hi => by
      obtain ⟨cs', h1, h2⟩ := hx i (by omega)
      rw [cellsNodeL] at h1
      obtain ⟨y, rfl, hy⟩ := node_cells h2
      obtain ⟨_, hlen, hcell⟩ := World.cells?_some h1
      exact ⟨y, hy, fun j v hv => (hcell j (by have := (List.getElem?_eq_some_iff.1 hv).1; rw [ndL_len] at this; exact this)).trans hv⟩)
    refine ⟨some x, cap, (List.range len).map f, by simp, ?_, by simp; omega, fun n hn => ?_⟩
    · by_cases h0 : len = 0
      · subst h0; exact .inl (by simp)
      · obtain ⟨b, off, spot⟩ := x
        have hsp : spot = none := by simpa [Addr.add] using World.cell?_spot ((hfn 0 (by omega)).2 0 _ rfl)
        subst hsp
        refine .inr ⟨b, off, rfl, fun i n hn j v hj => ?_⟩
        rw [List.getElem?_map, Option.map_eq_some_iff] at hn
        obtain ⟨i', hi', rfl⟩ := hn
        obtain ⟨hi2, rfl⟩ := List.getElem?_eq_some_iff.1 hi'
        rw [List.getElem_range] at hj
        have := (hfn i (by simpa using hi2)).2 j v hj
        rwa [Addr.add_mid, Addr.add_mid] at this
    · obtain ⟨i, hi, rfl⟩ := List.mem_map.1 hn
      exact (hfn i (List.mem_range.1 hi)).1
end Go.Proofs.YtbphninknpfcmaaDoor
