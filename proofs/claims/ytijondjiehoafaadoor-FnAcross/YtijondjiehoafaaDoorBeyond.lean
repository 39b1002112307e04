/-
  What the listed variable gives: the sentinel error that it holds is an interface value.
-/
import Derived.Test.YtijondjiehoafaaDoorRows
import Derived.WalkKit
import Derived.ProofKit
import Derived.OpenShut
import Derived.LaidLaws
import Derived.LaidSub
import Derived.Stop.ErrReads
import Derived.MakeChecks
namespace Go.Proofs.YtijondjiehoafaaDoor
open Go.ChangeShapes Go.WideShapes Go.ChangeAt Go.RowKit
set_option linter.unusedVariables false

theorem gBey : Tryd.prog.globalNamed "loop.example/g00164/impl.errBeyond" = some 1 := by kernel_rfl
theorem gBeyType : (Tryd.prog.globals[1]?).map (·.type) = some 97 := by kernel_rfl
set_option maxRecDepth 100000 in
theorem beyond_of {W : World} (h : laidMetH Tryd.prog [("loop.example/g00164/impl.errBeyond", Rows.laid_loop_example_g00164_impl_errBeyond)] W) :
    ∃ et ev, W.cell? ⟨1, 0, none⟩ = some (.iface et ev) := by
  rw [MakeChecks.laidMetH_plain _ _ _ (by kernel_rfl)] at h
  obtain ⟨ps, ⟨g0, t0, cs0, f0, p0, q0, hg0, ht0, hv0, hd0, hq0, e0⟩, hnd, hrows⟩ := h
  obtain rfl := Option.some.inj (gBey.symm.trans hg0)
  obtain rfl := Option.some.inj (gBeyType.symm.trans ht0)
  obtain ⟨l0⟩ := cs0
  obtain ⟨f1, u, v, rfl, hn, h1⟩ := iface_of_trod Tryd.underlying97 hd0
  exact ⟨_, _, (World.var?_cell hg0 hv0 0).trans rfl⟩
end Go.Proofs.YtijondjiehoafaaDoor
