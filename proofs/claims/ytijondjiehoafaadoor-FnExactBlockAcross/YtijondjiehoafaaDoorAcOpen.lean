/-
  Three numbers across of the law's own type, by value; two of the program's compared; the law's copy of one.
-/
import Derived.Test.YtijondjiehoafaaDoorStyO
import Derived.Test.YtijondjiehoafaaDoorWdK
namespace Go.Proofs.YtijondjiehoafaaDoor
open Go.ChangeShapes Go.WideShapes Go.ChangeAt Go.RowKit
set_option linter.unusedVariables false

theorem eqAcross_same (l x r : Int) (w : World) :
    Calls Tryd.prog 11 #[.agg #[.int .i64 l, .int .i64 x, .int .i64 r], .agg #[.int .i64 l, .int .i64 x, .int .i64 r]] w fun e w' => e = .returned (.bool true) ∧ Below w.heap.size w w' := by
  go_enter Tryd.func11, Tryd.ntmps11
  go_wp2
  go_ret
  exact ⟨rfl, ((Below.refl _ _).alloc (Nat.le_refl _) _).alloc (by simp) _⟩
theorem arr3 {α : Type} {cs : Array α} (h : cs.size = 3) : ∃ c0 c1 c2, cs = #[c0, c1, c2] := by
  obtain ⟨l⟩ := cs
  match l, h with
  | [c0, c1, c2], _ => exact ⟨c0, c1, c2, rfl⟩
theorem cellsAcross : Tryd.prog.cellsOf 38 = 3 := by kernel_rfl
set_option maxRecDepth 100000 in
theorem open_across {H : Type} {enc : TypeId × Value → H} {w : World} {base b0 : Nat} {spare : Nat → Bool} {held : Bool} {r : Reach} {v : Value} {d : DataW H} {p : List MemPlace}
    (hv : Value.okWide Tryd.prog w r b0 38 v) (h : DataW.Trod enc Tryd.prog w base spare held 38 v d p) :
    ∃ l x r : Int, v = .agg #[.int .i64 l, .int .i64 x, .int .i64 r] := by
  obtain ⟨cs, rfl, hsz⟩ := okWide_struct Tryd.underlying38 hv
  obtain ⟨c0, c1, c2, rfl⟩ := arr3 (hsz.trans cellsAcross)
  obtain ⟨fuel, hf⟩ := h
  obtain ⟨xs, n, _, hx, hl, hlen, hg⟩ := DataW.trod_struct Tryd.underlying38 hf
  have hlen' : xs.length = 3 := hlen
  have g0 := hg 0 _ rfl
  have g1 := hg 1 _ rfl
  have g2 := hg 2 _ rfl
  simp only [Value.cells] at g0 g1 g2
  obtain ⟨z0, rfl⟩ := int_cell (c := c0) (by simp; omega) g0
  obtain ⟨z1, rfl⟩ := int_cell (c := c1) (by simp; omega) g1
  obtain ⟨z2, rfl⟩ := int_cell (c := c2) (by simp; omega) g2
  exact ⟨z0, z1, z2, rfl⟩
theorem toAcross_any (l x r : Int) (w : World) :
    Calls Tryd.prog 15 #[.agg #[.int .i64 l, .int .i64 x, .int .i64 r]] w fun e w' => e = .returned (.agg #[.int .i64 l, .int .i64 x, .int .i64 r]) ∧ Below w.heap.size w w' := by
  go_enter Tryd.func15, Tryd.ntmps15
  go_wp2
  refine bodyPost_ret (v := .agg #[.int .i64 l, .int .i64 x, .int .i64 r]) (by simp [results, Tryd.results15, go_sem]) rfl ⟨rfl, ?_⟩
  repeat (first | exact Below.refl _ _ | refine Below.setCell ?_ (by first | (simp; done) | (simp; omega)) _ | refine Below.alloc ?_ (by first | (simp; done) | (simp; omega)) _)
end Go.Proofs.YtijondjiehoafaaDoor
