/-
  Contracts of the cursor's numbers: wide, sized and length answer some int.
-/
import Derived.Test.YtngbkcihdbnlgaaCur2
namespace Go.Proofs.Ytngbkcihdbnlgaa
open Go.ChangeShapes Go.WideShapes Go.ChangeAt Go.RowKit
set_option linter.unusedVariables false

theorem four_cells (w : World) (x0 x1 x2 x3 : Int) (i : Nat) (hi : i < 4) : ∃ z : Int, (w.alloc (.cells #[.int .i64 x0, .int .i64 x1, .int .i64 x2, .int .i64 x3] 3)).cell? ⟨w.heap.size, i, none⟩ = some (.int .i64 z) := by
  have : i = 0 ∨ i = 1 ∨ i = 2 ∨ i = 3 := by omega
  rcases this with rfl | rfl | rfl | rfl
  · exact ⟨x0, by simp⟩
  · exact ⟨x1, by simp⟩
  · exact ⟨x2, by simp⟩
  · exact ⟨x3, by simp⟩
theorem CurOk.grown {w w' : World} {b : Nat} {a : Option Addr} {len cap m : Nat} (h : CurOk w b a len cap m) (hb : Below w.heap.size w w') : CurOk w' b a len cap m := by
  have hlt := h.lt
  obtain ⟨hl, ⟨k, seed, hk, s0, s1, h0, h1, h2, f0, f1, f2⟩, hB⟩ := h
  refine ⟨hl, ⟨k, seed, hk, s0, s1, (hb.cell hlt).trans h0, (hb.cell hlt).trans h1, (hb.cell hlt).trans h2, (hb.frozen hlt).trans f0, (hb.frozen hlt).trans f1, (hb.frozen hlt).trans f2⟩, ?_⟩
  rcases hB with hB | ⟨cb, off, ha, hne, hc⟩
  · exact .inl hB
  · exact .inr ⟨cb, off, ha, hne, fun i hi => by obtain ⟨z, z0, z1, hz⟩ := hc i hi; exact ⟨z, z0, z1, (hb.cell (cell_lt' hz)).trans hz⟩⟩
theorem grown_of_below {w w' : World} (b : Nat) (hb : Below w.heap.size w w') : w.grownBy w' (some b) := ⟨hb.os, hb.tape, hb.output, hb.size, fun k hk _ => hb.block k hk⟩

end Go.Proofs.Ytngbkcihdbnlgaa
