/-
  A slice of floats of the law's own type that came in: what it holds.
-/
import Derived.Test.YtbnnpgkeggjodaaDoorAfR
import Derived.Deep.Slices
import Derived.OpenShut
namespace Go.Proofs.YtbnnpgkeggjodaaDoor
open Go.ChangeShapes Go.WideShapes Go.ChangeAt Go.RowKit
set_option linter.unusedVariables false

theorem as_list5 {α : Type} {cs : List α} (h : cs.length = 5) : ∃ c0 c1 c2 c3 c4, cs = [c0, c1, c2, c3, c4] := by
  match cs, h with
  | [c0, c1, c2, c3, c4], _ => exact ⟨c0, c1, c2, c3, c4, rfl⟩
theorem as_int_cell {H : Type} {enc : TypeId × Value → H} {w : World} {base n : Nat} {spare : Nat → Bool} {held : Bool} {c : Value} {x : Option (DataW H × List MemPlace)} (hx : x.isSome = true)
    (h : DataW.trod enc Tryd.prog w base spare held n 3 [c] = x) : ∃ z : Int, c = .int .i64 z := by
  obtain ⟨y, rfl⟩ := Option.isSome_iff_exists.1 hx
  obtain ⟨z, hz, _⟩ := DataW.trod_int Tryd.underlying3 h
  exact ⟨z, by simpa using hz⟩
theorem cellsAsideL : Tryd.prog.cellsOf 82 = 5 := by kernel_rfl
set_option maxRecDepth 100000 in
set_option maxHeartbeats 2000000 in
theorem aside_cells {H : Type} {enc : TypeId × Value → H} {w : World} {base fuel : Nat} {spare : Nat → Bool} {held : Bool} {cs : List Value} {x : DataW H × List MemPlace} 
    (h : DataW.trod enc Tryd.prog w base spare held fuel 82 cs = some x) : ∃ n : Asd, cs = asL n := by
  obtain ⟨d, q⟩ := x
  obtain ⟨xs, m, _, _, hcl, hlen, hg⟩ := DataW.trod_struct Tryd.underlying82 h
  have hlen' : xs.length = 5 := hlen
  rw [cellsAsideL] at hcl
  obtain ⟨c0, c1, c2, c3, c4, rfl⟩ := as_list5 hcl
  have g0 := hg 0 _ rfl
  obtain ⟨z0, rfl⟩ := as_int_cell (c := c0) (by simp; omega) g0
  have g1 := hg 1 _ rfl
  obtain ⟨z1, rfl⟩ := as_int_cell (c := c1) (by simp; omega) g1
  have g2 := hg 2 _ rfl
  obtain ⟨z2, rfl⟩ := as_int_cell (c := c2) (by simp; omega) g2
  have g3 := hg 3 _ rfl
  obtain ⟨z3, rfl⟩ := as_int_cell (c := c3) (by simp; omega) g3
  have g4 := hg 4 _ rfl
  obtain ⟨z4, rfl⟩ := as_int_cell (c := c4) (by simp; omega) g4
  exact ⟨⟨z0, z1, z2, z3, z4⟩, rfl⟩
set_option maxRecDepth 100000 in
theorem open_asides {H : Type} {enc : TypeId × Value → H} {w : World} {base b0 : Nat} {spare : Nat → Bool} {held : Bool} {r : Reach} {v : Value} {d : DataW H} {p : List MemPlace}
    (hv : Value.okWide Tryd.prog w r b0 25 v) (h : DataW.Trod enc Tryd.prog w base spare held 25 v d p) :
    ∃ (a : Option Addr) (cap : Nat) (ns : List Asd), v = .slice a ns.length cap ∧ AsRow w a ns ∧ ns.length ≤ maxLen := by
  obtain ⟨a, len, cap, rfl⟩ := okWide_slice Tryd.underlying25 hv
  obtain ⟨fuel, hf⟩ := h
  rcases Go.Deep.open_slice Tryd.underlying25 hf with ⟨hcs, _⟩ | ⟨x, l, c, m, n, D, Pl, hcs, _, hl, hm, hmm, _, hx⟩
  · simp [Value.cells] at hcs
    obtain ⟨rfl, rfl, rfl⟩ := hcs
    exact ⟨none, 0, [], rfl, .inl rfl, Nat.zero_le _⟩
  · simp [Value.cells] at hcs
    obtain ⟨rfl, rfl, rfl⟩ := hcs
    have hle : len ≤ m := by rw [hmm]; split <;> omega
    haveI : Inhabited Asd := ⟨as0⟩
    obtain ⟨f, hfn⟩ := Go.Deep.choose_lt (α := Asd) (n := len) (p := fun i y => ∀ j v, (asL y)[j]? = some v → w.cell? ((x.add (i * 5)).add j) = some v) (fun i hi => by
      obtain ⟨cs', h1, h2⟩ := hx i (by omega)
      rw [cellsAsideL] at h1
      obtain ⟨y, rfl⟩ := aside_cells h2
      obtain ⟨_, hlen, hcell⟩ := World.cells?_some h1
      exact ⟨y, fun j v hv => (hcell j (by have := (List.getElem?_eq_some_iff.1 hv).1; rw [asL_len] at this; exact this)).trans hv⟩)
    refine ⟨some x, cap, (List.range len).map f, by simp, ?_, by simp; omega⟩
    · by_cases h0 : len = 0
      · subst h0; exact .inl (by simp)
      · obtain ⟨b, off, spot⟩ := x
        have hsp : spot = none := by simpa [Addr.add] using World.cell?_spot (hfn 0 (by omega) 0 _ rfl)
        subst hsp
        refine .inr ⟨b, off, rfl, fun i n hn j v hj => ?_⟩
        rw [List.getElem?_map, Option.map_eq_some_iff] at hn
        obtain ⟨i', hi', rfl⟩ := hn
        obtain ⟨hi2, rfl⟩ := List.getElem?_eq_some_iff.1 hi'
        rw [List.getElem_range] at hj
        have := hfn i (by simpa using hi2) j v hj
        rwa [Addr.add_mid, Addr.add_mid] at this
end Go.Proofs.YtbnnpgkeggjodaaDoor
