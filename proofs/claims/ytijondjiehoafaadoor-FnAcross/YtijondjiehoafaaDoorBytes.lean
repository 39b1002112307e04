/-
  What a byte slice that came in gives: a row of bytes.
-/
import Derived.Test.YtijondjiehoafaaDoorDraw1
import Derived.ShutString
import Derived.SizedLaws
namespace Go.Proofs.YtijondjiehoafaaDoor
open Go.ChangeShapes Go.WideShapes Go.ChangeAt Go.RowKit

theorem bytesU8 : Tryd.prog.bytesOf 5 = 1 := by kernel_rfl
theorem rowB_of {w : World} {x : Addr} {len cap : Nat} {zs : List Int} (hl : len ≤ cap) (hz : zs.length = cap) (hcell : ∀ i, i < zs.length → w.cell? (x.add i) = some (.int .u8 (zs.getD i 0))) (hwz : ∀ n ∈ zs, (Lit.int .u8 n).wf = true) : RowB w (some x) len := by
  by_cases h0 : len = 0
  · exact .inl h0
  · obtain ⟨b, off, spot⟩ := x
    have hspot : spot = none := by simpa [Addr.add] using World.cell?_spot (hcell 0 (by omega))
    subst hspot
    refine .inr ⟨b, off, rfl, fun i hi => ?_⟩
    have h := hcell i (by omega)
    have hr := range_u8 hwz i
    refine ⟨zs.getD i 0, by rw [List.getD_eq_getElem?_getD]; exact hr.1, by rw [List.getD_eq_getElem?_getD]; exact hr.2, ?_⟩
    by_cases hi0 : i = 0
    · subst hi0; simpa [Addr.add] using h
    · simpa [Addr.add, hi0] using h
end Go.Proofs.YtijondjiehoafaaDoor
