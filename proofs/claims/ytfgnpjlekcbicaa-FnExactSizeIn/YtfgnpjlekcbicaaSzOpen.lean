/-
  A size of the law's own type, by value: what it holds, once it is read.
-/
import Derived.Test.YtfgnpjlekcbicaaRows
import Derived.WalkKit
import Derived.ProofKit
import Derived.OpenShut
namespace Go.Proofs.Ytfgnpjlekcbicaa
open Go.ChangeShapes Go.WideShapes Go.ChangeAt Go.RowKit

theorem arr3 {α : Type} {cs : Array α} (h : cs.size = 3) : ∃ c0 c1 c2, cs = #[c0, c1, c2] := by
  obtain ⟨l⟩ := cs
  match l, h with
  | [c0, c1, c2], _ => exact ⟨c0, c1, c2, rfl⟩
theorem cellsSize6 : Try.prog.cellsOf 26 = 3 := by kernel_rfl
theorem int_cell6 {H : Type} {enc : TypeId × Value → H} {w : World} {base n : Nat} {spare : Nat → Bool} {held : Bool} {c : Value} {x : Option (DataW H × List MemPlace)} (hx : x.isSome = true)
    (h : DataW.trod enc Try.prog w base spare held n 3 [c] = x) : ∃ z : Int, c = .int .i64 z := by
  obtain ⟨y, rfl⟩ := Option.isSome_iff_exists.1 hx
  obtain ⟨z, hz, _⟩ := DataW.trod_int Try.underlying3 h
  exact ⟨z, by simpa using hz⟩
theorem bool_cell6 {H : Type} {enc : TypeId × Value → H} {w : World} {base n : Nat} {spare : Nat → Bool} {held : Bool} {c : Value} {x : Option (DataW H × List MemPlace)} (hx : x.isSome = true)
    (h : DataW.trod enc Try.prog w base spare held n 4 [c] = x) : ∃ z : Bool, c = .bool z := by
  obtain ⟨y, rfl⟩ := Option.isSome_iff_exists.1 hx
  obtain ⟨z, hz, _⟩ := DataW.trod_bool Try.underlying4 h
  exact ⟨z, by simpa using hz⟩
theorem open_size {H : Type} {enc : TypeId × Value → H} {w : World} {base b0 : Nat} {spare : Nat → Bool} {held : Bool} {r : Reach} {v : Value} {d : DataW H} {p : List MemPlace}
    (hv : Value.okWide Try.prog w r b0 26 v) (h : DataW.Trod enc Try.prog w base spare held 26 v d p) :
    ∃ (za zp : Bool) (zn : Int), v = .agg #[.bool za, .bool zp, .int .i64 zn] := by
  obtain ⟨cs, rfl, hsz⟩ := okWide_struct Try.underlying26 hv
  obtain ⟨c0, c1, c2, rfl⟩ := arr3 (hsz.trans cellsSize6)
  obtain ⟨fuel, hf⟩ := h
  obtain ⟨xs, n, _, hx, hl, hlen, hg⟩ := DataW.trod_struct Try.underlying26 hf
  have hlen' : xs.length = 3 := hlen
  have g0 := hg 0 _ rfl
  have g1 := hg 1 _ rfl
  have g2 := hg 2 _ rfl
  simp only [Value.cells] at g0 g1 g2
  obtain ⟨z0, rfl⟩ := bool_cell6 (c := c0) (by simp; omega) g0
  obtain ⟨z1, rfl⟩ := bool_cell6 (c := c1) (by simp; omega) g1
  obtain ⟨z2, rfl⟩ := int_cell6 (c := c2) (by simp; omega) g2
  exact ⟨z0, z1, z2, rfl⟩
end Go.Proofs.Ytfgnpjlekcbicaa
