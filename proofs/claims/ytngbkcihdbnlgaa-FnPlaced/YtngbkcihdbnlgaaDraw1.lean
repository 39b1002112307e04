/-
  Contracts of the drawn lengths: DrawGoodLength, DrawPixelsText and DrawPercentOf answer some ints and leave all older memory alone, for every byte slice of at most 1048576 bytes.
-/
import Derived.Test.YtngbkcihdbnlgaaCur3
namespace Go.Proofs.Ytngbkcihdbnlgaa
open Go.ChangeShapes Go.WideShapes Go.ChangeAt Go.RowKit
set_option linter.unusedVariables false

/-- A byte slice that can be read. -/
def RowB (w : World) (a : Option Addr) (len : Nat) : Prop :=
  len = 0 ∨ ∃ cb off, a = some ⟨cb, off, none⟩ ∧ ∀ i, i < len → ∃ z : Int, 0 ≤ z ∧ z ≤ 255 ∧ w.cell? ⟨cb, off + i, none⟩ = some (.int .u8 z)
theorem RowB.below {w w' : World} {a : Option Addr} {len : Nat} (h : RowB w a len) (hb : Below w.heap.size w w') : RowB w' a len := by
  rcases h with h | ⟨cb, off, ha, hc⟩
  · exact .inl h
  · exact .inr ⟨cb, off, ha, fun i hi => by obtain ⟨z, z0, z1, hz⟩ := hc i hi; exact ⟨z, z0, z1, (hb.cell (cell_lt' hz)).trans hz⟩⟩
/-- A new cursor is good. -/
theorem cur_new (w : World) (a : Option Addr) (len cap : Nat) (hl : len ≤ 1048576) (h : RowB w a len) :
    CurOk (w.alloc (.cells #[.slice a len cap, .int .i64 0, .int .u64 0] 52)) w.heap.size a len cap 0 := by
  refine ⟨hl, ⟨0, 0, Nat.le_refl _, by omega, by omega, by simp, by simp, by simp, by simp, by simp, by simp⟩, ?_⟩
  rcases h with h | ⟨cb, off, ha, hc⟩
  · exact .inl h
  · by_cases h0 : len = 0
    · exact .inl h0
    · have hlt : cb < w.heap.size := by obtain ⟨z, _, _, hz⟩ := hc 0 (by omega); exact cell_lt' hz
      exact .inr ⟨cb, off, ha, by omega, fun i hi => by obtain ⟨z, z0, z1, hz⟩ := hc i hi; exact ⟨z, z0, z1, (World.cell?_alloc_lt _ _ _ hlt).trans hz⟩⟩
/-- What turned the cursor alone turned nothing older. -/
theorem below_new {w w' : World} {o : Obj} (h : (w.alloc o).grownBy w' (some w.heap.size)) : Below w.heap.size w w' :=
  ⟨h.os, h.tape, h.output, Nat.le_trans (by simp) h.size, fun k hk => (h.block k (by simp; omega) (by simp; omega)).trans (Below.heap_alloc w o k hk)⟩

theorem five_draw (w : World) (x0 x1 x2 x3 x4 : Int) (i : Nat) (hi : i < 5) : ∃ z : Int, (w.alloc (.cells #[.int .i64 x0, .int .i64 x1, .int .i64 x2, .int .i64 x3, .int .i64 x4] 3)).cell? ⟨w.heap.size, i, none⟩ = some (.int .i64 z) := by
  have : i = 0 ∨ i = 1 ∨ i = 2 ∨ i = 3 ∨ i = 4 := by omega
  rcases this with rfl | rfl | rfl | rfl | rfl
  · exact ⟨x0, by simp⟩
  · exact ⟨x1, by simp⟩
  · exact ⟨x2, by simp⟩
  · exact ⟨x3, by simp⟩
  · exact ⟨x4, by simp⟩

end Go.Proofs.Ytngbkcihdbnlgaa
