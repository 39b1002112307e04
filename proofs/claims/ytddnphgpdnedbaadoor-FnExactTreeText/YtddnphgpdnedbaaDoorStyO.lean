/-
  A style of the law's own type, by value: what it holds, once it is read.
-/
import Derived.Test.YtddnphgpdnedbaaDoorSty
import Derived.OpenShut
namespace Go.Proofs.YtddnphgpdnedbaaDoor
open Go.ChangeShapes Go.WideShapes Go.ChangeAt Go.RowKit
set_option linter.unusedVariables false

theorem array26 {α : Type} {cs : Array α} (h : cs.size = 26) : ∃ c0 c1 c2 c3 c4 c5 c6 c7 c8 c9 c10 c11 c12 c13 c14 c15 c16 c17 c18 c19 c20 c21 c22 c23 c24 c25, cs = #[c0, c1, c2, c3, c4, c5, c6, c7, c8, c9, c10, c11, c12, c13, c14, c15, c16, c17, c18, c19, c20, c21, c22, c23, c24, c25] := by
  obtain ⟨l⟩ := cs
  match l, h with
  | [c0, c1, c2, c3, c4, c5, c6, c7, c8, c9, c10, c11, c12, c13, c14, c15, c16, c17, c18, c19, c20, c21, c22, c23, c24, c25], _ => exact ⟨c0, c1, c2, c3, c4, c5, c6, c7, c8, c9, c10, c11, c12, c13, c14, c15, c16, c17, c18, c19, c20, c21, c22, c23, c24, c25, rfl⟩
theorem int_cell {H : Type} {enc : TypeId × Value → H} {w : World} {base n : Nat} {spare : Nat → Bool} {held : Bool} {c : Value} {x : Option (DataW H × List MemPlace)} (hx : x.isSome = true)
    (h : DataW.trod enc Tryd.prog w base spare held n 3 [c] = x) : ∃ z : Int, c = .int .i64 z := by
  obtain ⟨y, rfl⟩ := Option.isSome_iff_exists.1 hx
  obtain ⟨z, hz, _⟩ := DataW.trod_int Tryd.underlying3 h
  exact ⟨z, by simpa using hz⟩
theorem bool_cell {H : Type} {enc : TypeId × Value → H} {w : World} {base n : Nat} {spare : Nat → Bool} {held : Bool} {c : Value} {x : Option (DataW H × List MemPlace)} (hx : x.isSome = true)
    (h : DataW.trod enc Tryd.prog w base spare held n 4 [c] = x) : ∃ z : Bool, c = .bool z := by
  obtain ⟨y, rfl⟩ := Option.isSome_iff_exists.1 hx
  obtain ⟨z, hz, _⟩ := DataW.trod_bool Tryd.underlying4 h
  exact ⟨z, by simpa using hz⟩
set_option maxRecDepth 100000 in
theorem size_cells {H : Type} {enc : TypeId × Value → H} {w : World} {base n : Nat} {spare : Nat → Bool} {held : Bool} {c0 c1 c2 : Value} {x : Option (DataW H × List MemPlace)} (hx : x.isSome = true)
    (h : DataW.trod enc Tryd.prog w base spare held n 32 [c0, c1, c2] = x) : ∃ z : Sz, c0 = .bool z.a ∧ c1 = .bool z.p ∧ c2 = .int .i64 z.n := by
  obtain ⟨y, rfl⟩ := Option.isSome_iff_exists.1 hx
  obtain ⟨d, q⟩ := y
  obtain ⟨xs, m, _, _, _, hlen, hg⟩ := DataW.trod_struct Tryd.underlying32 h
  have hlen' : xs.length = 3 := hlen
  have g0 := hg 0 _ rfl
  have g1 := hg 1 _ rfl
  have g2 := hg 2 _ rfl
  obtain ⟨z0, e0⟩ := bool_cell (c := c0) (by simp; omega) g0
  obtain ⟨z1, e1⟩ := bool_cell (c := c1) (by simp; omega) g1
  obtain ⟨z2, e2⟩ := int_cell (c := c2) (by simp; omega) g2
  exact ⟨⟨z0, z1, z2⟩, e0, e1, e2⟩
theorem cellsStyle : Tryd.prog.cellsOf 34 = 26 := by kernel_rfl
set_option maxRecDepth 100000 in
set_option maxHeartbeats 2000000 in
theorem open_style {H : Type} {enc : TypeId × Value → H} {w : World} {base b0 : Nat} {spare : Nat → Bool} {held : Bool} {r : Reach} {v : Value} {d : DataW H} {p : List MemPlace}
    (hv : Value.okWide Tryd.prog w r b0 34 v) (h : DataW.Trod enc Tryd.prog w base spare held 34 v d p) :
    ∃ s : St, v = .agg #[.int .i64 s.sh, .int .i64 s.fl, .int .i64 s.cl, .bool s.w.a, .bool s.w.p, .int .i64 s.w.n, .bool s.h.a, .bool s.h.p, .int .i64 s.h.n, .int .i64 s.mn, .int .i64 s.mx, .int .i64 s.mt, .bool s.mr.a, .bool s.mr.p, .int .i64 s.mr.n, .int .i64 s.mb, .bool s.ml.a, .bool s.ml.p, .int .i64 s.ml.n, .int .i64 s.bo, .int .i64 s.pa, .int .i64 s.wh, .int .i64 s.al, .int .i64 s.lh, .int .i64 s.ri, .int .i64 s.dn] := by
  obtain ⟨cs, rfl, hsz⟩ := okWide_struct Tryd.underlying34 hv
  obtain ⟨c0, c1, c2, c3, c4, c5, c6, c7, c8, c9, c10, c11, c12, c13, c14, c15, c16, c17, c18, c19, c20, c21, c22, c23, c24, c25, rfl⟩ := array26 (hsz.trans cellsStyle)
  obtain ⟨fuel, hf⟩ := h
  obtain ⟨xs, n, _, hx, hl, hlen, hg⟩ := DataW.trod_struct Tryd.underlying34 hf
  have hlen' : xs.length = 18 := hlen

  have g0 := hg 0 _ rfl
  simp only [Value.cells] at g0
  obtain ⟨z0, rfl⟩ := int_cell (c := c0) (by simp; omega) g0
  have g1 := hg 1 _ rfl
  simp only [Value.cells] at g1
  obtain ⟨z1, rfl⟩ := int_cell (c := c1) (by simp; omega) g1
  have g2 := hg 2 _ rfl
  simp only [Value.cells] at g2
  obtain ⟨z2, rfl⟩ := int_cell (c := c2) (by simp; omega) g2
  have g3 := hg 3 _ rfl
  simp only [Value.cells] at g3
  obtain ⟨z3, rfl, rfl, rfl⟩ := size_cells (c0 := c3) (c1 := c4) (c2 := c5) (by simp; omega) g3
  have g4 := hg 4 _ rfl
  simp only [Value.cells] at g4
  obtain ⟨z4, rfl, rfl, rfl⟩ := size_cells (c0 := c6) (c1 := c7) (c2 := c8) (by simp; omega) g4
  have g5 := hg 5 _ rfl
  simp only [Value.cells] at g5
  obtain ⟨z5, rfl⟩ := int_cell (c := c9) (by simp; omega) g5
  have g6 := hg 6 _ rfl
  simp only [Value.cells] at g6
  obtain ⟨z6, rfl⟩ := int_cell (c := c10) (by simp; omega) g6
  have g7 := hg 7 _ rfl
  simp only [Value.cells] at g7
  obtain ⟨z7, rfl⟩ := int_cell (c := c11) (by simp; omega) g7
  have g8 := hg 8 _ rfl
  simp only [Value.cells] at g8
  obtain ⟨z8, rfl, rfl, rfl⟩ := size_cells (c0 := c12) (c1 := c13) (c2 := c14) (by simp; omega) g8
  have g9 := hg 9 _ rfl
  simp only [Value.cells] at g9
  obtain ⟨z9, rfl⟩ := int_cell (c := c15) (by simp; omega) g9
  have g10 := hg 10 _ rfl
  simp only [Value.cells] at g10
  obtain ⟨z10, rfl, rfl, rfl⟩ := size_cells (c0 := c16) (c1 := c17) (c2 := c18) (by simp; omega) g10
  have g11 := hg 11 _ rfl
  simp only [Value.cells] at g11
  obtain ⟨z11, rfl⟩ := int_cell (c := c19) (by simp; omega) g11
  have g12 := hg 12 _ rfl
  simp only [Value.cells] at g12
  obtain ⟨z12, rfl⟩ := int_cell (c := c20) (by simp; omega) g12
  have g13 := hg 13 _ rfl
  simp only [Value.cells] at g13
  obtain ⟨z13, rfl⟩ := int_cell (c := c21) (by simp; omega) g13
  have g14 := hg 14 _ rfl
  simp only [Value.cells] at g14
  obtain ⟨z14, rfl⟩ := int_cell (c := c22) (by simp; omega) g14
  have g15 := hg 15 _ rfl
  simp only [Value.cells] at g15
  obtain ⟨z15, rfl⟩ := int_cell (c := c23) (by simp; omega) g15
  have g16 := hg 16 _ rfl
  simp only [Value.cells] at g16
  obtain ⟨z16, rfl⟩ := int_cell (c := c24) (by simp; omega) g16
  have g17 := hg 17 _ rfl
  simp only [Value.cells] at g17
  obtain ⟨z17, rfl⟩ := int_cell (c := c25) (by simp; omega) g17
  exact ⟨⟨z0, z1, z2, z3, z4, z5, z6, z7, z8, z9, z10, z11, z12, z13, z14, z15, z16, z17⟩, rfl⟩
end Go.Proofs.YtddnphgpdnedbaaDoor
