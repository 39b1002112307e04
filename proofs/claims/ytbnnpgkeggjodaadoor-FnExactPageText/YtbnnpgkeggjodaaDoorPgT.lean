/-
  A page that came in, copied and compared by the law.
-/
import Derived.Test.YtbnnpgkeggjodaaDoorPgS
import Derived.Test.YtbnnpgkeggjodaaDoorBxO
import Derived.Test.YtbnnpgkeggjodaaDoorPlO
import Derived.Test.YtbnnpgkeggjodaaDoorLnO
import Derived.Test.YtbnnpgkeggjodaaDoorAfO
import Derived.Test.YtbnnpgkeggjodaaDoorBxE
import Derived.Test.YtbnnpgkeggjodaaDoorPlE
import Derived.Test.YtbnnpgkeggjodaaDoorLnE
import Derived.Test.YtbnnpgkeggjodaaDoorAfE
namespace Go.Proofs.YtbnnpgkeggjodaaDoor
open Go.ChangeShapes Go.WideShapes Go.ChangeAt Go.RowKit
set_option linter.unusedVariables false

set_option maxRecDepth 100000 in
theorem field_boxes {H : Type} {enc : TypeId × Value → H} {w : World} {base fuel : Nat} {spare : Nat → Bool} {held : Bool} {c : Value} {x : DataW H × List MemPlace}
    (h : DataW.trod enc Tryd.prog w base spare held fuel 22 [c] = some x) :
    ∃ (a : Option Addr) (cap : Nat) (ns : List Bx), c = .slice a ns.length cap ∧ BxRow w a ns ∧ ns.length ≤ maxLen ∧ ∀ n ∈ ns, n.tx.size ≤ maxLen := by
  obtain ⟨d0, p0⟩ := x
  rcases Go.Deep.open_slice Tryd.underlying22 h with ⟨hcs, _⟩ | ⟨x, len, cap, m, n, D, Pl, hcs, _, hl, hm, hmm, _, hx⟩
  · obtain rfl : c = .slice none 0 0 := by simpa using hcs
    exact ⟨none, 0, [], rfl, .inl rfl, Nat.zero_le _, fun n hn => by simp at hn⟩
  · obtain rfl : c = .slice (some x) len cap := by simpa using hcs
    have hle : len ≤ m := by rw [hmm]; split <;> omega
    haveI : Inhabited Bx := ⟨bx0⟩
    obtain ⟨f, hfn⟩ := Go.Deep.choose_lt (α := Bx) (n := len) (p := fun i y => y.tx.size ≤ maxLen ∧ ∀ j v, (bxL y)[j]? = some v → w.cell? ((x.add (i * 4)).add j) = some v) (fun i hi => by
      obtain ⟨cs', h1, h2⟩ := hx i (by omega)
      rw [cellsBoxL] at h1
      obtain ⟨y, rfl, hy⟩ := box_cells h2
      obtain ⟨_, hlen, hcell⟩ := World.cells?_some h1
      exact ⟨y, hy, fun j v hv => (hcell j (by have := (List.getElem?_eq_some_iff.1 hv).1; rw [bxL_len] at this; exact this)).trans hv⟩)
    refine ⟨some x, cap, (List.range len).map f, by simp, ?_, by simp; omega, fun n hn => ?_⟩
    · by_cases h0 : len = 0
      · subst h0; exact .inl (by simp)
      · obtain ⟨b, off, spot⟩ := x
        have hsp : spot = none := by simpa [Addr.add] using World.cell?_spot ((hfn 0 (by omega)).2 0 _ rfl)
        subst hsp
        refine .inr ⟨b, off, rfl, fun i n hn j v hj => ?_⟩
        rw [List.getElem?_map, Option.map_eq_some_iff] at hn
        obtain ⟨i', hi', rfl⟩ := hn
        obtain ⟨hi2, rfl⟩ := List.getElem?_eq_some_iff.1 hi'
        rw [List.getElem_range] at hj
        have := (hfn i (by simpa using hi2)).2 j v hj
        rwa [Addr.add_mid, Addr.add_mid] at this
    · obtain ⟨i, hi, rfl⟩ := List.mem_map.1 hn
      exact (hfn i (List.mem_range.1 hi)).1
set_option maxRecDepth 100000 in
theorem field_places {H : Type} {enc : TypeId × Value → H} {w : World} {base fuel : Nat} {spare : Nat → Bool} {held : Bool} {c : Value} {x : DataW H × List MemPlace}
    (h : DataW.trod enc Tryd.prog w base spare held fuel 23 [c] = some x) :
    ∃ (a : Option Addr) (cap : Nat) (ns : List Plc), c = .slice a ns.length cap ∧ PlRow w a ns ∧ ns.length ≤ maxLen := by
  obtain ⟨d0, p0⟩ := x
  rcases Go.Deep.open_slice Tryd.underlying23 h with ⟨hcs, _⟩ | ⟨x, len, cap, m, n, D, Pl, hcs, _, hl, hm, hmm, _, hx⟩
  · obtain rfl : c = .slice none 0 0 := by simpa using hcs
    exact ⟨none, 0, [], rfl, .inl rfl, Nat.zero_le _⟩
  · obtain rfl : c = .slice (some x) len cap := by simpa using hcs
    have hle : len ≤ m := by rw [hmm]; split <;> omega
    haveI : Inhabited Plc := ⟨pl0⟩
    obtain ⟨f, hfn⟩ := Go.Deep.choose_lt (α := Plc) (n := len) (p := fun i y => ∀ j v, (plL y)[j]? = some v → w.cell? ((x.add (i * 4)).add j) = some v) (fun i hi => by
      obtain ⟨cs', h1, h2⟩ := hx i (by omega)
      rw [cellsPlaceL] at h1
      obtain ⟨y, rfl⟩ := place_cells h2
      obtain ⟨_, hlen, hcell⟩ := World.cells?_some h1
      exact ⟨y, fun j v hv => (hcell j (by have := (List.getElem?_eq_some_iff.1 hv).1; rw [plL_len] at this; exact this)).trans hv⟩)
    refine ⟨some x, cap, (List.range len).map f, by simp, ?_, by simp; omega⟩
    · by_cases h0 : len = 0
      · subst h0; exact .inl (by simp)
      · obtain ⟨b, off, spot⟩ := x
        have hsp : spot = none := by simpa [Addr.add] using World.cell?_spot (hfn 0 (by omega) 0 _ rfl)
        subst hsp
        refine .inr ⟨b, off, rfl, fun i n hn j v hj => ?_⟩
        rw [List.getElem?_map, Option.map_eq_some_iff] at hn
        obtain ⟨i', hi', rfl⟩ := hn
        obtain ⟨hi2, rfl⟩ := List.getElem?_eq_some_iff.1 hi'
        rw [List.getElem_range] at hj
        have := hfn i (by simpa using hi2) j v hj
        rwa [Addr.add_mid, Addr.add_mid] at this
set_option maxRecDepth 100000 in
theorem field_lines {H : Type} {enc : TypeId × Value → H} {w : World} {base fuel : Nat} {spare : Nat → Bool} {held : Bool} {c : Value} {x : DataW H × List MemPlace}
    (h : DataW.trod enc Tryd.prog w base spare held fuel 24 [c] = some x) :
    ∃ (a : Option Addr) (cap : Nat) (ns : List Ln), c = .slice a ns.length cap ∧ LnRow w a ns ∧ ns.length ≤ maxLen ∧ ∀ n ∈ ns, n.tx.size ≤ maxLen := by
  obtain ⟨d0, p0⟩ := x
  rcases Go.Deep.open_slice Tryd.underlying24 h with ⟨hcs, _⟩ | ⟨x, len, cap, m, n, D, Pl, hcs, _, hl, hm, hmm, _, hx⟩
  · obtain rfl : c = .slice none 0 0 := by simpa using hcs
    exact ⟨none, 0, [], rfl, .inl rfl, Nat.zero_le _, fun n hn => by simp at hn⟩
  · obtain rfl : c = .slice (some x) len cap := by simpa using hcs
    have hle : len ≤ m := by rw [hmm]; split <;> omega
    haveI : Inhabited Ln := ⟨ln0⟩
    obtain ⟨f, hfn⟩ := Go.Deep.choose_lt (α := Ln) (n := len) (p := fun i y => y.tx.size ≤ maxLen ∧ ∀ j v, (lnL y)[j]? = some v → w.cell? ((x.add (i * 6)).add j) = some v) (fun i hi => by
      obtain ⟨cs', h1, h2⟩ := hx i (by omega)
      rw [cellsLineL] at h1
      obtain ⟨y, rfl, hy⟩ := line_cells h2
      obtain ⟨_, hlen, hcell⟩ := World.cells?_some h1
      exact ⟨y, hy, fun j v hv => (hcell j (by have := (List.getElem?_eq_some_iff.1 hv).1; rw [lnL_len] at this; exact this)).trans hv⟩)
    refine ⟨some x, cap, (List.range len).map f, by simp, ?_, by simp; omega, fun n hn => ?_⟩
    · by_cases h0 : len = 0
      · subst h0; exact .inl (by simp)
      · obtain ⟨b, off, spot⟩ := x
        have hsp : spot = none := by simpa [Addr.add] using World.cell?_spot ((hfn 0 (by omega)).2 0 _ rfl)
        subst hsp
        refine .inr ⟨b, off, rfl, fun i n hn j v hj => ?_⟩
        rw [List.getElem?_map, Option.map_eq_some_iff] at hn
        obtain ⟨i', hi', rfl⟩ := hn
        obtain ⟨hi2, rfl⟩ := List.getElem?_eq_some_iff.1 hi'
        rw [List.getElem_range] at hj
        have := (hfn i (by simpa using hi2)).2 j v hj
        rwa [Addr.add_mid, Addr.add_mid] at this
    · obtain ⟨i, hi, rfl⟩ := List.mem_map.1 hn
      exact (hfn i (List.mem_range.1 hi)).1
set_option maxRecDepth 100000 in
theorem field_asides {H : Type} {enc : TypeId × Value → H} {w : World} {base fuel : Nat} {spare : Nat → Bool} {held : Bool} {c : Value} {x : DataW H × List MemPlace}
    (h : DataW.trod enc Tryd.prog w base spare held fuel 25 [c] = some x) :
    ∃ (a : Option Addr) (cap : Nat) (ns : List Asd), c = .slice a ns.length cap ∧ AsRow w a ns ∧ ns.length ≤ maxLen := by
  obtain ⟨d0, p0⟩ := x
  rcases Go.Deep.open_slice Tryd.underlying25 h with ⟨hcs, _⟩ | ⟨x, len, cap, m, n, D, Pl, hcs, _, hl, hm, hmm, _, hx⟩
  · obtain rfl : c = .slice none 0 0 := by simpa using hcs
    exact ⟨none, 0, [], rfl, .inl rfl, Nat.zero_le _⟩
  · obtain rfl : c = .slice (some x) len cap := by simpa using hcs
    have hle : len ≤ m := by rw [hmm]; split <;> omega
    haveI : Inhabited Asd := ⟨as0⟩
    obtain ⟨f, hfn⟩ := Go.Deep.choose_lt (α := Asd) (n := len) (p := fun i y => ∀ j v, (asL y)[j]? = some v → w.cell? ((x.add (i * 5)).add j) = some v) (fun i hi => by
      obtain ⟨cs', h1, h2⟩ := hx i (by omega)
      rw [cellsAsideL] at h1
      obtain ⟨y, rfl⟩ := aside_cells h2
      obtain ⟨_, hlen, hcell⟩ := World.cells?_some h1
      exact ⟨y, fun j v hv => (hcell j (by have := (List.getElem?_eq_some_iff.1 hv).1; rw [asL_len] at this; exact this)).trans hv⟩)
    refine ⟨some x, cap, (List.range len).map f, by simp, ?_, by simp; omega⟩
    · by_cases h0 : len = 0
      · subst h0; exact .inl (by simp)
      · obtain ⟨b, off, spot⟩ := x
        have hsp : spot = none := by simpa [Addr.add] using World.cell?_spot (hfn 0 (by omega) 0 _ rfl)
        subst hsp
        refine .inr ⟨b, off, rfl, fun i n hn j v hj => ?_⟩
        rw [List.getElem?_map, Option.map_eq_some_iff] at hn
        obtain ⟨i', hi', rfl⟩ := hn
        obtain ⟨hi2, rfl⟩ := List.getElem?_eq_some_iff.1 hi'
        rw [List.getElem_range] at hj
        have := hfn i (by simpa using hi2) j v hj
        rwa [Addr.add_mid, Addr.add_mid] at this
theorem BxOwn.same {w w' : World} {g n k : Nat} {ns : List Bx} (h : BxOwn w g n ns k) (e : w'.heap[g]? = w.heap[g]?) : BxOwn w' g n ns k :=
  ⟨fun j hj => ⟨by rw [World.cell?_of_block (w := w) (a := ⟨g, 0 + j, none⟩) e]; exact (h.there j hj).1, by rw [World.frozen?_of_block (w := w) (a := ⟨g, 0 + j, none⟩) e]; exact (h.there j hj).2⟩, fun i x hi hx j v hv => (World.cell?_of_block (w := w) e).trans (h.rows i x hi hx j v hv)⟩
theorem BxOwn.put9 {w w' : World} {g n k q : Nat} {ns : List Bx} (h : BxOwn w g n ns k) (p : Put q w w') (ne : g ≠ q) : BxOwn w' g n ns k := h.same (p.other g ne)
theorem PlOwn.same {w w' : World} {g n k : Nat} {ns : List Plc} (h : PlOwn w g n ns k) (e : w'.heap[g]? = w.heap[g]?) : PlOwn w' g n ns k :=
  ⟨fun j hj => ⟨by rw [World.cell?_of_block (w := w) (a := ⟨g, 0 + j, none⟩) e]; exact (h.there j hj).1, by rw [World.frozen?_of_block (w := w) (a := ⟨g, 0 + j, none⟩) e]; exact (h.there j hj).2⟩, fun i x hi hx j v hv => (World.cell?_of_block (w := w) e).trans (h.rows i x hi hx j v hv)⟩
theorem PlOwn.put9 {w w' : World} {g n k q : Nat} {ns : List Plc} (h : PlOwn w g n ns k) (p : Put q w w') (ne : g ≠ q) : PlOwn w' g n ns k := h.same (p.other g ne)
theorem LnOwn.same {w w' : World} {g n k : Nat} {ns : List Ln} (h : LnOwn w g n ns k) (e : w'.heap[g]? = w.heap[g]?) : LnOwn w' g n ns k :=
  ⟨fun j hj => ⟨by rw [World.cell?_of_block (w := w) (a := ⟨g, 0 + j, none⟩) e]; exact (h.there j hj).1, by rw [World.frozen?_of_block (w := w) (a := ⟨g, 0 + j, none⟩) e]; exact (h.there j hj).2⟩, fun i x hi hx j v hv => (World.cell?_of_block (w := w) e).trans (h.rows i x hi hx j v hv)⟩
theorem LnOwn.put9 {w w' : World} {g n k q : Nat} {ns : List Ln} (h : LnOwn w g n ns k) (p : Put q w w') (ne : g ≠ q) : LnOwn w' g n ns k := h.same (p.other g ne)
theorem AsOwn.same {w w' : World} {g n k : Nat} {ns : List Asd} (h : AsOwn w g n ns k) (e : w'.heap[g]? = w.heap[g]?) : AsOwn w' g n ns k :=
  ⟨fun j hj => ⟨by rw [World.cell?_of_block (w := w) (a := ⟨g, 0 + j, none⟩) e]; exact (h.there j hj).1, by rw [World.frozen?_of_block (w := w) (a := ⟨g, 0 + j, none⟩) e]; exact (h.there j hj).2⟩, fun i x hi hx j v hv => (World.cell?_of_block (w := w) e).trans (h.rows i x hi hx j v hv)⟩
theorem AsOwn.put9 {w w' : World} {g n k q : Nat} {ns : List Asd} (h : AsOwn w g n ns k) (p : Put q w w') (ne : g ≠ q) : AsOwn w' g n ns k := h.same (p.other g ne)
theorem list5 {α : Type} {cs : List α} (h : cs.length = 5) : ∃ c0 c1 c2 c3 c4, cs = [c0, c1, c2, c3, c4] := by
  match cs, h with
  | [c0, c1, c2, c3, c4], _ => exact ⟨c0, c1, c2, c3, c4, rfl⟩
theorem cellsPageL : Tryd.prog.cellsOf 27 = 5 := by kernel_rfl
theorem oneL : Tryd.prog.cellsOf 22 = 1 ∧ Tryd.prog.cellsOf 23 = 1 ∧ Tryd.prog.cellsOf 24 = 1 ∧ Tryd.prog.cellsOf 25 = 1 := ⟨by kernel_rfl, by kernel_rfl, by kernel_rfl, by kernel_rfl⟩
set_option maxRecDepth 100000 in
theorem open_page {H : Type} {enc : TypeId × Value → H} {w : World} {base b0 : Nat} {spare : Nat → Bool} {held : Bool} {r : Reach} {v : Value} {d : DataW H} {p : List MemPlace}
    (hv : Value.okWide Tryd.prog w r b0 27 v) (h : DataW.Trod enc Tryd.prog w base spare held 27 v d p) :
    ∃ P : Pg, v = .agg #[.slice P.ba P.bs.length P.bc, .slice P.pa P.ps.length P.pc, .slice P.la P.ls.length P.lc, .slice P.fa P.fs.length P.fc, .int .i64 P.hi] ∧ PgRow w P ∧ PgLen P maxLen ∧ (∀ x ∈ P.bs, x.tx.size ≤ maxLen) ∧ ∀ x ∈ P.ls, x.tx.size ≤ maxLen := by
  obtain ⟨cs, rfl, hsz⟩ := okWide_struct Tryd.underlying27 hv
  obtain ⟨l⟩ := cs
  obtain ⟨c0, c1, c2, c3, c4, rfl⟩ := list5 (hsz.trans cellsPageL : l.length = 5)
  obtain ⟨fuel, hf⟩ := h
  obtain ⟨xs, n, _, hx, hl, hlen, hg⟩ := DataW.trod_struct Tryd.underlying27 hf
  have hlen' : xs.length = 5 := hlen
  have g0 := hg 0 _ rfl
  have g1 := hg 1 _ rfl
  have g2 := hg 2 _ rfl
  have g3 := hg 3 _ rfl
  have g4 := hg 4 _ rfl
  simp only [Value.cells] at g0 g1 g2 g3 g4
  obtain ⟨y0, hy0⟩ : ∃ y, xs[0]? = some y := ⟨_, List.getElem?_eq_getElem (by omega)⟩
  obtain ⟨y1, hy1⟩ : ∃ y, xs[1]? = some y := ⟨_, List.getElem?_eq_getElem (by omega)⟩
  obtain ⟨y2, hy2⟩ : ∃ y, xs[2]? = some y := ⟨_, List.getElem?_eq_getElem (by omega)⟩
  obtain ⟨y3, hy3⟩ : ∃ y, xs[3]? = some y := ⟨_, List.getElem?_eq_getElem (by omega)⟩
  rw [hy0] at g0
  rw [hy1] at g1
  rw [hy2] at g2
  rw [hy3] at g3
  obtain ⟨ba, bc, bs, rfl, rb, lb, tb⟩ := field_boxes (c := c0) g0
  obtain ⟨pa, pc, ps, rfl, rp, lp⟩ := field_places (c := c1) g1
  obtain ⟨la, lc, ls, rfl, rl, ll, tl⟩ := field_lines (c := c2) g2
  obtain ⟨fa, fc, fs, rfl, rf, lf⟩ := field_asides (c := c3) g3
  obtain ⟨z, rfl⟩ := bx_int_cell (c := c4) (by simp; omega) g4
  exact ⟨⟨ba, bc, bs, pa, pc, ps, la, lc, ls, fa, fc, fs, z⟩, rfl, ⟨rb, rp, rl, rf⟩, ⟨lb, lp, ll, lf⟩, tb, tl⟩

/-- A page that a call has made: rows of its own, one behind the other. -/
structure PgOwn (w : World) (gb gp gl gf : Nat) (P : Pg) : Prop where
  ob : BxOwn w gb P.bs.length P.bs P.bs.length
  op : PlOwn w gp P.ps.length P.ps P.ps.length
  ol : LnOwn w gl P.ls.length P.ls P.ls.length
  of : AsOwn w gf P.fs.length P.fs P.fs.length
  l1 : gb < gp
  l2 : gp < gl
  l3 : gl < gf
  l4 : gf < w.heap.size
theorem PgOwn.below {w w' : World} {gb gp gl gf B : Nat} {P : Pg} (h : PgOwn w gb gp gl gf P) (hb : Below B w w') (hB : gf < B) : PgOwn w' gb gp gl gf P :=
  ⟨h.ob.below hb (by have := h.l1; have := h.l2; have := h.l3; omega), h.op.below hb (by have := h.l2; have := h.l3; omega), h.ol.below hb (by have := h.l3; omega), h.of.below hb hB, h.l1, h.l2, h.l3, Nat.lt_of_lt_of_le h.l4 hb.size⟩
def pgAt (gb gp gl gf : Nat) (P : Pg) : Pg := ⟨some ⟨gb, 0, none⟩, P.bs.length, P.bs, some ⟨gp, 0, none⟩, P.ps.length, P.ps, some ⟨gl, 0, none⟩, P.ls.length, P.ls, some ⟨gf, 0, none⟩, P.fs.length, P.fs, P.hi⟩
theorem PgOwn.row {w : World} {gb gp gl gf : Nat} {P : Pg} (h : PgOwn w gb gp gl gf P) : PgRow w (pgAt gb gp gl gf P) := ⟨h.ob.row, h.op.row, h.ol.row, h.of.row⟩

set_option maxRecDepth 100000 in
set_option maxHeartbeats 8000000 in
theorem toPage_any (P : Pg) (w : World) (hr : PgRow w P) (hl : PgLen P 1048576) :
    Calls Tryd.prog 6 #[.agg #[.slice P.ba P.bs.length P.bc, .slice P.pa P.ps.length P.pc, .slice P.la P.ls.length P.lc, .slice P.fa P.fs.length P.fc, .int .i64 P.hi]] w fun e w' =>
      ∃ gb gp gl gf : Nat, e = .returned (.agg #[.slice (some ⟨gb, 0, none⟩) P.bs.length P.bs.length, .slice (some ⟨gp, 0, none⟩) P.ps.length P.ps.length, .slice (some ⟨gl, 0, none⟩) P.ls.length P.ls.length, .slice (some ⟨gf, 0, none⟩) P.fs.length P.fs.length, .int .i64 P.hi]) ∧ Below w.heap.size w w' ∧ w.heap.size ≤ gb ∧ PgOwn w' gb gp gl gf P := by
  obtain ⟨ba, bc, bs, pa, pc, ps, la, lc, ls, fa, fc, fs, hi⟩ := P
  have TB := fun (W : World) (h : Below w.heap.size w W) => toBoxes ba bc bs W (hr.rb.below h) hl.lb
  have TP := fun (W : World) (h : Below w.heap.size w W) => toPlaces pa pc ps W (hr.rp.below h) hl.lp
  have TL := fun (W : World) (h : Below w.heap.size w W) => toLines la lc ls W (hr.rl.below h) hl.ll
  have TF := fun (W : World) (h : Below w.heap.size w W) => toAsides fa fc fs W (hr.rf.below h) hl.lf
  have HQ : Hid (∀ (W : World) (nb np nl nf gb gp gl gf : Nat), bs.length = nb → ps.length = np → ls.length = nl → fs.length = nf → BxOwn W gb nb bs nb → PlOwn W gp np ps np → LnOwn W gl nl ls nl → AsOwn W gf nf fs nf → gb < gp → gp < gl → gl < gf → gf < W.heap.size →
      PgOwn W gb gp gl gf ⟨ba, bc, bs, pa, pc, ps, la, lc, ls, fa, fc, fs, hi⟩) := by
    intro W nb np nl nf gb gp gl gf e1 e2 e3 e4 o1 o2 o3 o4 h1 h2 h3 h4
    subst e1; subst e2; subst e3; subst e4
    exact ⟨o1, o2, o3, o4, h1, h2, h3, h4⟩
  clear hr hl
  dsimp only
  generalize e1 : bs.length = nb at TB
  generalize e2 : ps.length = np at TP
  generalize e3 : ls.length = nl at TL
  generalize e4 : fs.length = nf at TF
  have E1 : Hid (bs.length = nb) := e1
  have E2 : Hid (ps.length = np) := e2
  have E3 : Hid (ls.length = nl) := e3
  have E4 : Hid (fs.length = nf) := e4
  clear e1 e2 e3 e4
  have l0 : (((w.alloc (.cells #[.slice ba nb bc, .slice pa np pc, .slice la nl lc, .slice fa nf fc, .int .i64 hi] 27)).alloc (.cells #[.slice none 0 0, .slice none 0 0, .slice none 0 0, .slice none 0 0, .int .i64 0] 36)).alloc (.cells #[.slice none 0 0, .slice none 0 0, .slice none 0 0, .slice none 0 0, .int .i64 0] 36)).heap[w.heap.size]? = some (.cells #[.slice ba nb bc, .slice pa np pc, .slice la nl lc, .slice fa nf fc, .int .i64 hi] 27 (0, 0)) := heap_in (heap_in (heap_at _ _ _ rfl))
  have l1 : (((w.alloc (.cells #[.slice ba nb bc, .slice pa np pc, .slice la nl lc, .slice fa nf fc, .int .i64 hi] 27)).alloc (.cells #[.slice none 0 0, .slice none 0 0, .slice none 0 0, .slice none 0 0, .int .i64 0] 36)).alloc (.cells #[.slice none 0 0, .slice none 0 0, .slice none 0 0, .slice none 0 0, .int .i64 0] 36)).heap[w.heap.size + 1]? = some (.cells #[.slice none 0 0, .slice none 0 0, .slice none 0 0, .slice none 0 0, .int .i64 0] 36 (0, 0)) := heap_in (heap_at _ _ _ (by simp))
  have l2 : (((w.alloc (.cells #[.slice ba nb bc, .slice pa np pc, .slice la nl lc, .slice fa nf fc, .int .i64 hi] 27)).alloc (.cells #[.slice none 0 0, .slice none 0 0, .slice none 0 0, .slice none 0 0, .int .i64 0] 36)).alloc (.cells #[.slice none 0 0, .slice none 0 0, .slice none 0 0, .slice none 0 0, .int .i64 0] 36)).heap[w.heap.size + 1 + 1]? = some (.cells #[.slice none 0 0, .slice none 0 0, .slice none 0 0, .slice none 0 0, .int .i64 0] 36 (0, 0)) := heap_at _ _ _ (by simp)
  have b0 : Below w.heap.size w (((w.alloc (.cells #[.slice ba nb bc, .slice pa np pc, .slice la nl lc, .slice fa nf fc, .int .i64 hi] 27)).alloc (.cells #[.slice none 0 0, .slice none 0 0, .slice none 0 0, .slice none 0 0, .int .i64 0] 36)).alloc (.cells #[.slice none 0 0, .slice none 0 0, .slice none 0 0, .slice none 0 0, .int .i64 0] 36)) := (((Below.refl _ _).alloc (Nat.le_refl _) _).alloc (by simp) _).alloc (by simp; omega) _
  go_enter Tryd.func6, Tryd.ntmps6
  go_wp2_with fail
  refine (TB _ b0).mono ?_
  rintro e w1 ⟨rfl, c, z0, o0⟩
  replace b0 := b0.trans (c.mono b0.size)
  have s0 := lies_lt l2
  replace l2 := below_lies c l2 s0
  replace l1 := below_lies c l1 (lies_lt l1)
  replace l0 := below_lies c l0 (lies_lt l0)
  clear c
  dsimp only
  iterate 4 go_step
  refine wpList_putA rfl _ _ _ rfl rfl _ 0 5 [.slice (some ⟨_, 0, none⟩) nb nb] _ _ rfl rfl l2 rfl (by kernel_rfl) (by kernel_rfl) (by kernel_rfl) ?_
  intro w9 p9 l9 n9
  clear n9
  replace l2 := l9
  replace l1 := p9.lies l1 (by omega)
  replace l0 := p9.lies l0 (by omega)
  replace b0 := p9.below b0 (by omega)
  replace o0 := o0.put9 p9 (by omega)
  replace z0 := Nat.lt_of_lt_of_le z0 (Nat.le_of_eq p9.size.symm)
  have q : w9.cell? ⟨w.heap.size, 1, none⟩ = some (.slice pa np pc) := (lies_cell l0 1).trans rfl
  clear p9 l9
  go_wp2_with fail
  clear q
  have n1 := z0
  refine (TP _ b0).mono ?_
  rintro e w1 ⟨rfl, c, z1, o1⟩
  replace b0 := b0.trans (c.mono b0.size)
  have s0 := lies_lt l2
  replace l2 := below_lies c l2 s0
  replace l1 := below_lies c l1 (lies_lt l1)
  replace l0 := below_lies c l0 (lies_lt l0)
  replace o0 := o0.below c z0
  replace z0 := Nat.lt_of_lt_of_le z0 c.size
  clear c
  dsimp only
  iterate 4 go_step
  refine wpList_putA rfl _ _ _ rfl rfl _ 1 5 [.slice (some ⟨_, 0, none⟩) np np] _ _ rfl rfl l2 rfl (by kernel_rfl) (by kernel_rfl) (by kernel_rfl) ?_
  intro w9 p9 l9 n9
  clear n9
  replace l2 := l9
  replace l1 := p9.lies l1 (by omega)
  replace l0 := p9.lies l0 (by omega)
  replace b0 := p9.below b0 (by omega)
  replace o0 := o0.put9 p9 (by omega)
  replace z0 := Nat.lt_of_lt_of_le z0 (Nat.le_of_eq p9.size.symm)
  replace o1 := o1.put9 p9 (by omega)
  replace z1 := Nat.lt_of_lt_of_le z1 (Nat.le_of_eq p9.size.symm)
  have q : w9.cell? ⟨w.heap.size, 2, none⟩ = some (.slice la nl lc) := (lies_cell l0 2).trans rfl
  clear p9 l9
  go_wp2_with fail
  clear q
  have n2 := z1
  refine (TL _ b0).mono ?_
  rintro e w1 ⟨rfl, c, z2, o2⟩
  replace b0 := b0.trans (c.mono b0.size)
  have s0 := lies_lt l2
  replace l2 := below_lies c l2 s0
  replace l1 := below_lies c l1 (lies_lt l1)
  replace l0 := below_lies c l0 (lies_lt l0)
  replace o0 := o0.below c z0
  replace z0 := Nat.lt_of_lt_of_le z0 c.size
  replace o1 := o1.below c z1
  replace z1 := Nat.lt_of_lt_of_le z1 c.size
  clear c
  dsimp only
  iterate 4 go_step
  refine wpList_putA rfl _ _ _ rfl rfl _ 2 5 [.slice (some ⟨_, 0, none⟩) nl nl] _ _ rfl rfl l2 rfl (by kernel_rfl) (by kernel_rfl) (by kernel_rfl) ?_
  intro w9 p9 l9 n9
  clear n9
  replace l2 := l9
  replace l1 := p9.lies l1 (by omega)
  replace l0 := p9.lies l0 (by omega)
  replace b0 := p9.below b0 (by omega)
  replace o0 := o0.put9 p9 (by omega)
  replace z0 := Nat.lt_of_lt_of_le z0 (Nat.le_of_eq p9.size.symm)
  replace o1 := o1.put9 p9 (by omega)
  replace z1 := Nat.lt_of_lt_of_le z1 (Nat.le_of_eq p9.size.symm)
  replace o2 := o2.put9 p9 (by omega)
  replace z2 := Nat.lt_of_lt_of_le z2 (Nat.le_of_eq p9.size.symm)
  have q : w9.cell? ⟨w.heap.size, 3, none⟩ = some (.slice fa nf fc) := (lies_cell l0 3).trans rfl
  clear p9 l9
  go_wp2_with fail
  clear q
  have n3 := z2
  refine (TF _ b0).mono ?_
  rintro e w1 ⟨rfl, c, z3, o3⟩
  replace b0 := b0.trans (c.mono b0.size)
  have s0 := lies_lt l2
  replace l2 := below_lies c l2 s0
  replace l1 := below_lies c l1 (lies_lt l1)
  replace l0 := below_lies c l0 (lies_lt l0)
  replace o0 := o0.below c z0
  replace z0 := Nat.lt_of_lt_of_le z0 c.size
  replace o1 := o1.below c z1
  replace z1 := Nat.lt_of_lt_of_le z1 c.size
  replace o2 := o2.below c z2
  replace z2 := Nat.lt_of_lt_of_le z2 c.size
  clear c
  dsimp only
  iterate 4 go_step
  refine wpList_putA rfl _ _ _ rfl rfl _ 3 5 [.slice (some ⟨_, 0, none⟩) nf nf] _ _ rfl rfl l2 rfl (by kernel_rfl) (by kernel_rfl) (by kernel_rfl) ?_
  intro w9 p9 l9 n9
  clear n9
  replace l2 := l9
  replace l1 := p9.lies l1 (by omega)
  replace l0 := p9.lies l0 (by omega)
  replace b0 := p9.below b0 (by omega)
  replace o0 := o0.put9 p9 (by omega)
  replace z0 := Nat.lt_of_lt_of_le z0 (Nat.le_of_eq p9.size.symm)
  replace o1 := o1.put9 p9 (by omega)
  replace z1 := Nat.lt_of_lt_of_le z1 (Nat.le_of_eq p9.size.symm)
  replace o2 := o2.put9 p9 (by omega)
  replace z2 := Nat.lt_of_lt_of_le z2 (Nat.le_of_eq p9.size.symm)
  replace o3 := o3.put9 p9 (by omega)
  replace z3 := Nat.lt_of_lt_of_le z3 (Nat.le_of_eq p9.size.symm)
  have q : w9.cell? ⟨w.heap.size, 4, none⟩ = some (.int .i64 hi) := (lies_cell l0 4).trans rfl
  clear p9 l9
  iterate 3 go_step
  iterate 11 go_step
  refine wpList_putA rfl _ _ _ rfl rfl _ 4 5 [.int .i64 hi] _ _ rfl rfl l2 rfl (by kernel_rfl) (by kernel_rfl) (by kernel_rfl) ?_
  intro w8 p9 l9 n9
  clear n9
  replace l2 := l9
  replace l1 := p9.lies l1 (by omega)
  replace b0 := p9.below b0 (by omega)
  replace o0 := o0.put9 p9 (by omega)
  replace z0 := Nat.lt_of_lt_of_le z0 (Nat.le_of_eq p9.size.symm)
  replace o1 := o1.put9 p9 (by omega)
  replace z1 := Nat.lt_of_lt_of_le z1 (Nat.le_of_eq p9.size.symm)
  replace o2 := o2.put9 p9 (by omega)
  replace z2 := Nat.lt_of_lt_of_le z2 (Nat.le_of_eq p9.size.symm)
  replace o3 := o3.put9 p9 (by omega)
  replace z3 := Nat.lt_of_lt_of_le z3 (Nat.le_of_eq p9.size.symm)
  clear p9 l9 q l0
  iterate 3 go_step
  iterate 2 go_step
  replace l2 := l2.trans (congrArg (fun c => some (Obj.cells c 36 (0, 0))) (show _ = #[.slice (some ⟨_, 0, none⟩) nb nb, .slice (some ⟨_, 0, none⟩) np np, .slice (some ⟨_, 0, none⟩) nl nl, .slice (some ⟨_, 0, none⟩) nf nf, .int .i64 hi] from rfl))
  refine wpList_load_row rfl 36 _ rfl _ rfl _ (#[.slice (some ⟨_, 0, none⟩) nb nb, .slice (some ⟨_, 0, none⟩) np np, .slice (some ⟨_, 0, none⟩) nl nl, .slice (some ⟨_, 0, none⟩) nf nf, .int .i64 hi]) _ _ l2 Tryd.underlying36 rfl (by kernel_rfl) ?_
  refine wpList_putA rfl _ _ _ rfl rfl _ 0 5 (#[.slice (some ⟨_, 0, none⟩) nb nb, .slice (some ⟨_, 0, none⟩) np np, .slice (some ⟨_, 0, none⟩) nl nl, .slice (some ⟨_, 0, none⟩) nf nf, .int .i64 hi] : Array Value).toList _ _ rfl rfl l1 rfl (by kernel_rfl) (by kernel_rfl) (by kernel_rfl) ?_
  intro w7 p9 l9 n9
  clear n9
  replace l1 := l9.trans (congrArg (fun c => some (Obj.cells c 36 (0, 0))) (show _ = #[.slice (some ⟨_, 0, none⟩) nb nb, .slice (some ⟨_, 0, none⟩) np np, .slice (some ⟨_, 0, none⟩) nl nl, .slice (some ⟨_, 0, none⟩) nf nf, .int .i64 hi] from rfl))
  replace b0 := p9.below b0 (by omega)
  replace o0 := o0.put9 p9 (by omega)
  replace z0 := Nat.lt_of_lt_of_le z0 (Nat.le_of_eq p9.size.symm)
  replace o1 := o1.put9 p9 (by omega)
  replace z1 := Nat.lt_of_lt_of_le z1 (Nat.le_of_eq p9.size.symm)
  replace o2 := o2.put9 p9 (by omega)
  replace z2 := Nat.lt_of_lt_of_le z2 (Nat.le_of_eq p9.size.symm)
  replace o3 := o3.put9 p9 (by omega)
  replace z3 := Nat.lt_of_lt_of_le z3 (Nat.le_of_eq p9.size.symm)
  clear p9 l9 l2
  go_wp2
  exact bodyPost_ret (v := .agg #[.slice (some ⟨_, 0, none⟩) nb nb, .slice (some ⟨_, 0, none⟩) np np, .slice (some ⟨_, 0, none⟩) nl nl, .slice (some ⟨_, 0, none⟩) nf nf, .int .i64 hi]) (results_cell_row Tryd.results6 _ _ _ _ (#[.slice (some ⟨_, 0, none⟩) nb nb, .slice (some ⟨_, 0, none⟩) np np, .slice (some ⟨_, 0, none⟩) nl nl, .slice (some ⟨_, 0, none⟩) nf nf, .int .i64 hi]) _ _ rfl l1 Tryd.underlying36 rfl (by kernel_rfl)) rfl ⟨_, _, _, _, rfl, b0, by omega, HQ.out _ nb np nl nf _ _ _ _ E1.out E2.out E3.out E4.out o0 o1 o2 o3 n1 n2 n3 z3⟩
end Go.Proofs.YtbnnpgkeggjodaaDoor
