/-
  The model's l6Float: a float's widths.
-/
import Derived.Test.YtojdmcennpgndaaDoorWdN
namespace Go.Proofs.YtojdmcennpgndaaDoor
open Go.ChangeShapes Go.WideShapes Go.ChangeAt Go.RowKit
set_option linter.unusedVariables false

/-- As Sw, with the answer so far at p. -/
def Sv (s : St) (w : World) (p : Nat) (vl vm : Int) (W : World) : Prop := Sw s w W ∧ ∃ x : Int, W.heap[p]? = some (.cells #[.int .i64 vl, .int .i64 x, .int .i64 vm] 30 (0, 0))
theorem Sv_call {s : St} {w W W' : World} {p : Nat} {vl vm : Int} (h : Sv s w p vl vm W) (hb : Below W.heap.size W W') : Sv s w p vl vm W' := ⟨Sw_call h.1 hb, by obtain ⟨x, hx⟩ := h.2; exact ⟨x, below_lies hb hx (lies_lt hx)⟩⟩
theorem Sv_put {s : St} {w W W' : World} {p : Nat} {vl vm : Int} {x : Int} (h : Sv s w p vl vm W) (hp : Put p W W') (hne : w.heap.size + 1 < p) (hx : W'.heap[p]? = some (.cells #[.int .i64 vl, .int .i64 x, .int .i64 vm] 30 (0, 0))) : Sv s w p vl vm W' := ⟨Sw_put h.1 hp hne, x, hx⟩
theorem cl_max2 (n m : Int) : clZ n m (-1) = max n m := by unfold clZ; rw [if_neg (by omega)]
end Go.Proofs.YtojdmcennpgndaaDoor
