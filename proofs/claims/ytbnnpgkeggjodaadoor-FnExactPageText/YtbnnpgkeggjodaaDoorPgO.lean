/-
  A page of the law's own type by value, with the ranges of its numbers.
-/
import Derived.Test.YtbnnpgkeggjodaaDoorPtP
import Derived.Test.YtbnnpgkeggjodaaDoorPgT
namespace Go.Proofs.YtbnnpgkeggjodaaDoor
open Go.ChangeShapes Go.WideShapes Go.ChangeAt Go.RowKit
set_option linter.unusedVariables false

theorem wf_in {z : Int} (h : (Lit.int .i64 z).wf = true) : inI z := by
  have e1 : IntKind.i64.min = -9223372036854775808 := by decide
  simp [Lit.wf] at h
  rw [e1] at h
  exact h
theorem bx_int_cellR {H : Type} {enc : TypeId × Value → H} {w : World} {base n : Nat} {spare : Nat → Bool} {held : Bool} {c : Value} {x : Option (DataW H × List MemPlace)} (hx : x.isSome = true)
    (h : DataW.trod enc Tryd.prog w base spare held n 3 [c] = x) : ∃ z : Int, c = .int .i64 z ∧ inI z := by
  obtain ⟨y, rfl⟩ := Option.isSome_iff_exists.1 hx
  obtain ⟨z, hz, _, hw⟩ := DataW.trod_int Tryd.underlying3 h
  exact ⟨z, by simpa using hz, wf_in hw⟩
def BxIn (n : Bx) : Prop := n.tx.size ≤ maxLen ∧ inI n.nd
def PlIn (n : Plc) : Prop := inI n.x ∧ inI n.y ∧ inI n.w ∧ inI n.h
def LnIn (n : Ln) : Prop := n.tx.size ≤ maxLen ∧ inI n.bx ∧ inI n.x ∧ inI n.y ∧ inI n.w
set_option maxRecDepth 100000 in
set_option maxHeartbeats 2000000 in
theorem box_cellsR {H : Type} {enc : TypeId × Value → H} {w : World} {base fuel : Nat} {spare : Nat → Bool} {held : Bool} {cs : List Value} {x : DataW H × List MemPlace} 
    (h : DataW.trod enc Tryd.prog w base spare held fuel 72 cs = some x) : ∃ n : Bx, cs = bxL n ∧ BxIn n := by
  obtain ⟨d, q⟩ := x
  obtain ⟨xs, m, _, _, hcl, hlen, hg⟩ := DataW.trod_struct Tryd.underlying72 h
  have hlen' : xs.length = 4 := hlen
  rw [cellsBoxL] at hcl
  obtain ⟨c0, c1, c2, c3, rfl⟩ := bx_list4 hcl
  have g0 := hg 0 _ rfl
  obtain ⟨z0, rfl, k0⟩ := bx_int_cellR (c := c0) (by simp; omega) g0
  have g1 := hg 1 _ rfl
  obtain ⟨z1, rfl, k1⟩ := bx_int_cellR (c := c1) (by simp; omega) g1
  have g2 := hg 2 _ rfl
  obtain ⟨z2, rfl, k2⟩ := bx_int_cellR (c := c2) (by simp; omega) g2
  have g3 := hg 3 _ rfl
  obtain ⟨y3, hy3⟩ : ∃ y, xs[3]? = some y := ⟨_, List.getElem?_eq_getElem (by omega)⟩
  rw [hy3] at g3
  obtain ⟨tx, ht, _, hs⟩ := DataW.trod_string Tryd.underlying9 g3
  have ht' : c3 = .string tx := by simpa [bx_cellsNine] using ht
  subst ht'
  exact ⟨⟨z0, z1, z2, tx⟩, rfl, hs, k1⟩
set_option maxRecDepth 100000 in
set_option maxHeartbeats 2000000 in
theorem field_boxesR {H : Type} {enc : TypeId × Value → H} {w : World} {base fuel : Nat} {spare : Nat → Bool} {held : Bool} {c : Value} {x : DataW H × List MemPlace}
    (h : DataW.trod enc Tryd.prog w base spare held fuel 22 [c] = some x) :
    ∃ (a : Option Addr) (cap : Nat) (ns : List Bx), c = .slice a ns.length cap ∧ BxRow w a ns ∧ ns.length ≤ maxLen ∧ ∀ n ∈ ns, BxIn n := by
  obtain ⟨d0, p0⟩ := x
  rcases Go.Deep.open_slice Tryd.underlying22 h with ⟨hcs, _⟩ | ⟨x, len, cap, m, n, D, Pl, hcs, _, hl, hm, hmm, _, hx⟩
  · obtain rfl : c = .slice none 0 0 := by simpa using hcs
    exact ⟨none, 0, [], rfl, .inl rfl, Nat.zero_le _, fun n hn => by simp at hn⟩
  · obtain rfl : c = .slice (some x) len cap := by simpa using hcs
    have hle : len ≤ m := by rw [hmm]; split <;> omega
    haveI : Inhabited Bx := ⟨bx0⟩
    obtain ⟨f, hfn⟩ := Go.Deep.choose_lt (α := Bx) (n := len) (p := fun i y => BxIn y ∧ ∀ j v, (bxL y)[j]? = some v → w.cell? ((x.add (i * 4)).add j) = some v) (fun i hi => by
      obtain ⟨cs', h1, h2⟩ := hx i (by omega)
      rw [cellsBoxL] at h1
      obtain ⟨y, rfl, hy⟩ := box_cellsR h2
      obtain ⟨_, hlen, hcell⟩ := World.cells?_some h1
      exact ⟨y, hy, fun j v hv => (hcell j (by have := (List.getElem?_eq_some_iff.1 hv).1; rw [bxL_len] at this; exact this)).trans hv⟩)
    refine ⟨some x, cap, (List.range len).map f, by simp, ?_, by simp; omega, fun n hn => ?_⟩
    · by_cases h0 : len = 0
      · subst h0; exact .inl (by simp)
      · obtain ⟨b, off, spot⟩ := x
        have hsp : spot = none := by simpa [Addr.add] using World.cell?_spot ((hfn 0 (by omega)).2 0 _ rfl)
        subst hsp
        refine .inr ⟨b, off, rfl, fun i n hn j v hj => ?_⟩
        rw [List.getElem?_map, Option.map_eq_some_iff] at hn
        obtain ⟨i', hi', rfl⟩ := hn
        obtain ⟨hi2, rfl⟩ := List.getElem?_eq_some_iff.1 hi'
        rw [List.getElem_range] at hj
        have := (hfn i (by simpa using hi2)).2 j v hj
        rwa [Addr.add_mid, Addr.add_mid] at this
    · obtain ⟨i, hi, rfl⟩ := List.mem_map.1 hn
      exact (hfn i (List.mem_range.1 hi)).1
set_option maxRecDepth 100000 in
set_option maxHeartbeats 2000000 in
theorem place_cellsR {H : Type} {enc : TypeId × Value → H} {w : World} {base fuel : Nat} {spare : Nat → Bool} {held : Bool} {cs : List Value} {x : DataW H × List MemPlace} 
    (h : DataW.trod enc Tryd.prog w base spare held fuel 77 cs = some x) : ∃ n : Plc, cs = plL n ∧ PlIn n := by
  obtain ⟨d, q⟩ := x
  obtain ⟨xs, m, _, _, hcl, hlen, hg⟩ := DataW.trod_struct Tryd.underlying77 h
  have hlen' : xs.length = 4 := hlen
  rw [cellsPlaceL] at hcl
  obtain ⟨c0, c1, c2, c3, rfl⟩ := pl_list4 hcl
  have g0 := hg 0 _ rfl
  obtain ⟨z0, rfl, k0⟩ := bx_int_cellR (c := c0) (by simp; omega) g0
  have g1 := hg 1 _ rfl
  obtain ⟨z1, rfl, k1⟩ := bx_int_cellR (c := c1) (by simp; omega) g1
  have g2 := hg 2 _ rfl
  obtain ⟨z2, rfl, k2⟩ := bx_int_cellR (c := c2) (by simp; omega) g2
  have g3 := hg 3 _ rfl
  obtain ⟨z3, rfl, k3⟩ := bx_int_cellR (c := c3) (by simp; omega) g3
  exact ⟨⟨z0, z1, z2, z3⟩, rfl, k0, k1, k2, k3⟩
set_option maxRecDepth 100000 in
set_option maxHeartbeats 2000000 in
theorem field_placesR {H : Type} {enc : TypeId × Value → H} {w : World} {base fuel : Nat} {spare : Nat → Bool} {held : Bool} {c : Value} {x : DataW H × List MemPlace}
    (h : DataW.trod enc Tryd.prog w base spare held fuel 23 [c] = some x) :
    ∃ (a : Option Addr) (cap : Nat) (ns : List Plc), c = .slice a ns.length cap ∧ PlRow w a ns ∧ ns.length ≤ maxLen ∧ ∀ n ∈ ns, PlIn n := by
  obtain ⟨d0, p0⟩ := x
  rcases Go.Deep.open_slice Tryd.underlying23 h with ⟨hcs, _⟩ | ⟨x, len, cap, m, n, D, Pl, hcs, _, hl, hm, hmm, _, hx⟩
  · obtain rfl : c = .slice none 0 0 := by simpa using hcs
    exact ⟨none, 0, [], rfl, .inl rfl, Nat.zero_le _, fun n hn => by simp at hn⟩
  · obtain rfl : c = .slice (some x) len cap := by simpa using hcs
    have hle : len ≤ m := by rw [hmm]; split <;> omega
    haveI : Inhabited Plc := ⟨pl0⟩
    obtain ⟨f, hfn⟩ := Go.Deep.choose_lt (α := Plc) (n := len) (p := fun i y => PlIn y ∧ ∀ j v, (plL y)[j]? = some v → w.cell? ((x.add (i * 4)).add j) = some v) (fun i hi => by
      obtain ⟨cs', h1, h2⟩ := hx i (by omega)
      rw [cellsPlaceL] at h1
      obtain ⟨y, rfl, hy⟩ := place_cellsR h2
      obtain ⟨_, hlen, hcell⟩ := World.cells?_some h1
      exact ⟨y, hy, fun j v hv => (hcell j (by have := (List.getElem?_eq_some_iff.1 hv).1; rw [plL_len] at this; exact this)).trans hv⟩)
    refine ⟨some x, cap, (List.range len).map f, by simp, ?_, by simp; omega, fun n hn => ?_⟩
    · by_cases h0 : len = 0
      · subst h0; exact .inl (by simp)
      · obtain ⟨b, off, spot⟩ := x
        have hsp : spot = none := by simpa [Addr.add] using World.cell?_spot ((hfn 0 (by omega)).2 0 _ rfl)
        subst hsp
        refine .inr ⟨b, off, rfl, fun i n hn j v hj => ?_⟩
        rw [List.getElem?_map, Option.map_eq_some_iff] at hn
        obtain ⟨i', hi', rfl⟩ := hn
        obtain ⟨hi2, rfl⟩ := List.getElem?_eq_some_iff.1 hi'
        rw [List.getElem_range] at hj
        have := (hfn i (by simpa using hi2)).2 j v hj
        rwa [Addr.add_mid, Addr.add_mid] at this
    · obtain ⟨i, hi, rfl⟩ := List.mem_map.1 hn
      exact (hfn i (List.mem_range.1 hi)).1
set_option maxRecDepth 100000 in
set_option maxHeartbeats 2000000 in
theorem line_cellsR {H : Type} {enc : TypeId × Value → H} {w : World} {base fuel : Nat} {spare : Nat → Bool} {held : Bool} {cs : List Value} {x : DataW H × List MemPlace} 
    (h : DataW.trod enc Tryd.prog w base spare held fuel 74 cs = some x) : ∃ n : Ln, cs = lnL n ∧ LnIn n := by
  obtain ⟨d, q⟩ := x
  obtain ⟨xs, m, _, _, hcl, hlen, hg⟩ := DataW.trod_struct Tryd.underlying74 h
  have hlen' : xs.length = 6 := hlen
  rw [cellsLineL] at hcl
  obtain ⟨c0, c1, c2, c3, c4, c5, rfl⟩ := ln_list6 hcl
  have g0 := hg 0 _ rfl
  obtain ⟨z0, rfl, k0⟩ := bx_int_cellR (c := c0) (by simp; omega) g0
  have g1 := hg 1 _ rfl
  obtain ⟨z1, rfl, k1⟩ := bx_int_cellR (c := c1) (by simp; omega) g1
  have g2 := hg 2 _ rfl
  obtain ⟨z2, rfl, k2⟩ := bx_int_cellR (c := c2) (by simp; omega) g2
  have g3 := hg 3 _ rfl
  obtain ⟨z3, rfl, k3⟩ := bx_int_cellR (c := c3) (by simp; omega) g3
  have g4 := hg 4 _ rfl
  obtain ⟨z4, rfl, k4⟩ := bx_int_cellR (c := c4) (by simp; omega) g4
  have g5 := hg 5 _ rfl
  obtain ⟨y3, hy3⟩ : ∃ y, xs[5]? = some y := ⟨_, List.getElem?_eq_getElem (by omega)⟩
  rw [hy3] at g5
  obtain ⟨tx, ht, _, hs⟩ := DataW.trod_string Tryd.underlying9 g5
  have ht' : c5 = .string tx := by simpa [ln_cellsNine] using ht
  subst ht'
  exact ⟨⟨z0, z1, z2, z3, z4, tx⟩, rfl, hs, k0, k1, k2, k3⟩
set_option maxRecDepth 100000 in
set_option maxHeartbeats 2000000 in
theorem field_linesR {H : Type} {enc : TypeId × Value → H} {w : World} {base fuel : Nat} {spare : Nat → Bool} {held : Bool} {c : Value} {x : DataW H × List MemPlace}
    (h : DataW.trod enc Tryd.prog w base spare held fuel 24 [c] = some x) :
    ∃ (a : Option Addr) (cap : Nat) (ns : List Ln), c = .slice a ns.length cap ∧ LnRow w a ns ∧ ns.length ≤ maxLen ∧ ∀ n ∈ ns, LnIn n := by
  obtain ⟨d0, p0⟩ := x
  rcases Go.Deep.open_slice Tryd.underlying24 h with ⟨hcs, _⟩ | ⟨x, len, cap, m, n, D, Pl, hcs, _, hl, hm, hmm, _, hx⟩
  · obtain rfl : c = .slice none 0 0 := by simpa using hcs
    exact ⟨none, 0, [], rfl, .inl rfl, Nat.zero_le _, fun n hn => by simp at hn⟩
  · obtain rfl : c = .slice (some x) len cap := by simpa using hcs
    have hle : len ≤ m := by rw [hmm]; split <;> omega
    haveI : Inhabited Ln := ⟨ln0⟩
    obtain ⟨f, hfn⟩ := Go.Deep.choose_lt (α := Ln) (n := len) (p := fun i y => LnIn y ∧ ∀ j v, (lnL y)[j]? = some v → w.cell? ((x.add (i * 6)).add j) = some v) (fun i hi => by
      obtain ⟨cs', h1, h2⟩ := hx i (by omega)
      rw [cellsLineL] at h1
      obtain ⟨y, rfl, hy⟩ := line_cellsR h2
      obtain ⟨_, hlen, hcell⟩ := World.cells?_some h1
      exact ⟨y, hy, fun j v hv => (hcell j (by have := (List.getElem?_eq_some_iff.1 hv).1; rw [lnL_len] at this; exact this)).trans hv⟩)
    refine ⟨some x, cap, (List.range len).map f, by simp, ?_, by simp; omega, fun n hn => ?_⟩
    · by_cases h0 : len = 0
      · subst h0; exact .inl (by simp)
      · obtain ⟨b, off, spot⟩ := x
        have hsp : spot = none := by simpa [Addr.add] using World.cell?_spot ((hfn 0 (by omega)).2 0 _ rfl)
        subst hsp
        refine .inr ⟨b, off, rfl, fun i n hn j v hj => ?_⟩
        rw [List.getElem?_map, Option.map_eq_some_iff] at hn
        obtain ⟨i', hi', rfl⟩ := hn
        obtain ⟨hi2, rfl⟩ := List.getElem?_eq_some_iff.1 hi'
        rw [List.getElem_range] at hj
        have := (hfn i (by simpa using hi2)).2 j v hj
        rwa [Addr.add_mid, Addr.add_mid] at this
    · obtain ⟨i, hi, rfl⟩ := List.mem_map.1 hn
      exact (hfn i (List.mem_range.1 hi)).1
set_option maxRecDepth 100000 in
theorem open_pageR {H : Type} {enc : TypeId × Value → H} {w : World} {base b0 : Nat} {spare : Nat → Bool} {held : Bool} {r : Reach} {v : Value} {d : DataW H} {p : List MemPlace}
    (hv : Value.okWide Tryd.prog w r b0 27 v) (h : DataW.Trod enc Tryd.prog w base spare held 27 v d p) :
    ∃ P : Pg, v = .agg #[.slice P.ba P.bs.length P.bc, .slice P.pa P.ps.length P.pc, .slice P.la P.ls.length P.lc, .slice P.fa P.fs.length P.fc, .int .i64 P.hi] ∧ PgRow w P ∧ PgLen P maxLen ∧ (∀ x ∈ P.bs, x.tx.size ≤ maxLen) ∧ (∀ x ∈ P.ls, x.tx.size ≤ maxLen) ∧ PgIn P := by
  obtain ⟨cs, rfl, hsz⟩ := okWide_struct Tryd.underlying27 hv
  obtain ⟨l⟩ := cs
  obtain ⟨c0, c1, c2, c3, c4, rfl⟩ := list5 (hsz.trans cellsPageL : l.length = 5)
  obtain ⟨fuel, hf⟩ := h
  obtain ⟨xs, n, _, hx, hl, hlen, hg⟩ := DataW.trod_struct Tryd.underlying27 hf
  have hlen' : xs.length = 5 := hlen
  have g0 := hg 0 _ rfl
  have g1 := hg 1 _ rfl
  have g2 := hg 2 _ rfl
  have g3 := hg 3 _ rfl
  have g4 := hg 4 _ rfl
  simp only [Value.cells] at g0 g1 g2 g3 g4
  obtain ⟨y0, hy0⟩ : ∃ y, xs[0]? = some y := ⟨_, List.getElem?_eq_getElem (by omega)⟩
  obtain ⟨y1, hy1⟩ : ∃ y, xs[1]? = some y := ⟨_, List.getElem?_eq_getElem (by omega)⟩
  obtain ⟨y2, hy2⟩ : ∃ y, xs[2]? = some y := ⟨_, List.getElem?_eq_getElem (by omega)⟩
  obtain ⟨y3, hy3⟩ : ∃ y, xs[3]? = some y := ⟨_, List.getElem?_eq_getElem (by omega)⟩
  rw [hy0] at g0
  rw [hy1] at g1
  rw [hy2] at g2
  rw [hy3] at g3
  obtain ⟨ba, bc, bs, rfl, rb, lb, tb⟩ := field_boxesR (c := c0) g0
  obtain ⟨pa, pc, ps, rfl, rp, lp, tp⟩ := field_placesR (c := c1) g1
  obtain ⟨la, lc, ls, rfl, rl, ll, tl⟩ := field_linesR (c := c2) g2
  obtain ⟨fa, fc, fs, rfl, rf, lf⟩ := field_asides (c := c3) g3
  obtain ⟨z, rfl, kz⟩ := bx_int_cellR (c := c4) (by simp; omega) g4
  exact ⟨⟨ba, bc, bs, pa, pc, ps, la, lc, ls, fa, fc, fs, z⟩, rfl, ⟨rb, rp, rl, rf⟩, ⟨lb, lp, ll, lf⟩, fun x hx => (tb x hx).1, fun x hx => (tl x hx).1, ⟨fun i x hx => (tb x (List.mem_of_getElem? hx)).2, fun i x hx => tp x (List.mem_of_getElem? hx), fun i x hx => (tl x (List.mem_of_getElem? hx)).2, kz⟩⟩

end Go.Proofs.YtbnnpgkeggjodaaDoor
