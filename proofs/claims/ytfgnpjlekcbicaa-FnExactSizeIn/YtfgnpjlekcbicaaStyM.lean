/-
  The model's GoodStyle, for every style.
-/
import Derived.Test.YtfgnpjlekcbicaaStyB
namespace Go.Proofs.Ytfgnpjlekcbicaa
open Go.ChangeShapes Go.WideShapes Go.ChangeAt Go.RowKit
set_option linter.unusedVariables false

def gA (s : St) : Bool := inB 1 3 s.sh && inB 0 2 s.fl && inB 0 3 s.cl && inB 1 5 s.wh && inB 1 3 s.al
def gB (s : St) : Bool := szB s.w.a s.w.p s.w.n && szB s.h.a s.h.p s.h.n && szB s.ml.a s.ml.p s.ml.n && szB s.mr.a s.mr.p s.mr.n
def gC (s : St) : Bool := !decide (s.w.n < 0) && !decide (s.h.n < 0) && !s.h.p && inB 0 1000000 s.mn && inB (-1) 1000000 s.mx
def gD (s : St) : Bool := inB (-1000000) 1000000 s.mt && inB (-1000000) 1000000 s.mb && inB (-1000000) 1000000 s.ri && inB (-1000000) 1000000 s.dn
def gE (s : St) : Bool := inB 0 64000 s.bo && inB 0 64000 s.pa && inB 0 64000 s.lh
def styleB (s : St) : Bool := gA s && gB s && gC s && gD s && gE s
/-- The first k sizes are good. -/
def okS (s : St) (k : Nat) : Prop := (0 < k → szB s.w.a s.w.p s.w.n = true) ∧ (1 < k → szB s.h.a s.h.p s.h.n = true) ∧ (2 < k → szB s.ml.a s.ml.p s.ml.n = true) ∧ (3 < k → szB s.mr.a s.mr.p s.mr.n = true)

end Go.Proofs.Ytfgnpjlekcbicaa
