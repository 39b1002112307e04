/-
  What FixStyle makes of a style; the model's l4Fix, for every style.
-/
import Derived.Test.YtijondjiehoafaaDoorStyB
namespace Go.Proofs.YtijondjiehoafaaDoor
open Go.ChangeShapes Go.WideShapes Go.ChangeAt Go.RowKit
set_option linter.unusedVariables false

def stCells (s : St) : Array Value := #[.int .i64 s.sh, .int .i64 s.fl, .int .i64 s.cl, .bool s.w.a, .bool s.w.p, .int .i64 s.w.n, .bool s.h.a, .bool s.h.p, .int .i64 s.h.n, .int .i64 s.mn, .int .i64 s.mx, .int .i64 s.mt, .bool s.mr.a, .bool s.mr.p, .int .i64 s.mr.n, .int .i64 s.mb, .bool s.ml.a, .bool s.ml.p, .int .i64 s.ml.n, .int .i64 s.bo, .int .i64 s.pa, .int .i64 s.wh, .int .i64 s.al, .int .i64 s.lh, .int .i64 s.ri, .int .i64 s.dn]
def plainSt : St := ⟨1, 0, 0, ⟨true, false, 0⟩, ⟨true, false, 0⟩, 0, -1, 0, ⟨false, false, 0⟩, 0, ⟨false, false, 0⟩, 0, 0, 1, 1, 0, 0, 0⟩
def zeroSt : St := ⟨0, 0, 0, ⟨false, false, 0⟩, ⟨false, false, 0⟩, 0, 0, 0, ⟨false, false, 0⟩, 0, ⟨false, false, 0⟩, 0, 0, 0, 0, 0, 0, 0⟩
def fixSt (s : St) : St := if s.sh = 3 then s else if s.fl ≠ 0 then { s with sh := 1 } else if s.sh = 2 then { plainSt with sh := 2 } else s

/-- Two results, the first one a struct in memory. -/
theorem results_row_tmp {P : Program} {fn : Func} {p q : Tmp} {ty : TypeId} (h : fn.results = #[.cell p ty, .tmp q]) (tmps : Array Value) (w : World) (g : Nat) (t : TypeId) (cs : Array Value) (fr : Nat × Nat) (d : TypeDesc) (v : Value)
    (hp : tmps.getD p undef = .pointer (some ⟨g, 0, none⟩)) (hg : w.heap[g]? = some (.cells cs t fr))
    (hu : P.underlying ty = some d) (hd : (match d with | .struct _ | .array _ _ => true | _ => false) = true) (hi : (P.info? ty).map (·.size) = some cs.size) (hq : tmps.getD q undef = v) :
    (results fn tmps).run P w = .ok (.tuple #[.agg cs, v]) w := by
  have hp' : tmps[p]?.getD undef = .pointer (some ⟨g, 0, none⟩) := by simpa using hp
  have hq' : tmps[q]?.getD undef = v := by simpa using hq
  simp [results, h, hp', hq', asAddr, run_loadVar_row w g t ty cs fr d hg hu hd hi]
end Go.Proofs.YtijondjiehoafaaDoor
