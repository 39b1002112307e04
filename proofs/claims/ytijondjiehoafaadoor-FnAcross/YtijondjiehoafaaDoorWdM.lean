/-
  The model's l6Edge and l6Good, and its solving of a block's widths.
-/
import Derived.Test.YtijondjiehoafaaDoorWdJ
import Derived.Test.YtijondjiehoafaaDoorStyR
namespace Go.Proofs.YtijondjiehoafaaDoor
open Go.ChangeShapes Go.WideShapes Go.ChangeAt Go.RowKit
set_option linter.unusedVariables false

set_option maxRecDepth 100000 in
set_option maxHeartbeats 2000000 in
theorem edge_any (s : St) (w : World) (hs : styleB s = true) : Calls Tryd.prog 39 #[.agg #[.int .i64 s.sh, .int .i64 s.fl, .int .i64 s.cl, .bool s.w.a, .bool s.w.p, .int .i64 s.w.n, .bool s.h.a, .bool s.h.p, .int .i64 s.h.n, .int .i64 s.mn, .int .i64 s.mx, .int .i64 s.mt, .bool s.mr.a, .bool s.mr.p, .int .i64 s.mr.n, .int .i64 s.mb, .bool s.ml.a, .bool s.ml.p, .int .i64 s.ml.n, .int .i64 s.bo, .int .i64 s.pa, .int .i64 s.wh, .int .i64 s.al, .int .i64 s.lh, .int .i64 s.ri, .int .i64 s.dn]] w fun e w' => e = .returned (.int .i64 (eg s)) ∧ Below w.heap.size w w' := by
  obtain ⟨b1, b2, p1, p2, _⟩ := style_bd hs
  clear hs
  go_enter Tryd.func39, Tryd.ntmps39
  go_wp2
  go_ret
  exact ⟨rfl, (Below.refl _ _).alloc (Nat.le_refl _) _⟩
def gdB (s : St) (b : Int) : Bool := styleB s && inB 0 1000000 b
set_option maxRecDepth 100000 in
set_option maxHeartbeats 2000000 in
theorem l6Good_any (s : St) (b : Int) (w : World) : Calls Tryd.prog 28 #[.agg #[.int .i64 s.sh, .int .i64 s.fl, .int .i64 s.cl, .bool s.w.a, .bool s.w.p, .int .i64 s.w.n, .bool s.h.a, .bool s.h.p, .int .i64 s.h.n, .int .i64 s.mn, .int .i64 s.mx, .int .i64 s.mt, .bool s.mr.a, .bool s.mr.p, .int .i64 s.mr.n, .int .i64 s.mb, .bool s.ml.a, .bool s.ml.p, .int .i64 s.ml.n, .int .i64 s.bo, .int .i64 s.pa, .int .i64 s.wh, .int .i64 s.al, .int .i64 s.lh, .int .i64 s.ri, .int .i64 s.dn], .int .i64 b] w fun e w' => e = .returned (.bool (gdB s b)) ∧ Below w.heap.size w w' := by
  have l0 : (w.alloc (.cells (#[.int .i64 s.sh, .int .i64 s.fl, .int .i64 s.cl, .bool s.w.a, .bool s.w.p, .int .i64 s.w.n, .bool s.h.a, .bool s.h.p, .int .i64 s.h.n, .int .i64 s.mn, .int .i64 s.mx, .int .i64 s.mt, .bool s.mr.a, .bool s.mr.p, .int .i64 s.mr.n, .int .i64 s.mb, .bool s.ml.a, .bool s.ml.p, .int .i64 s.ml.n, .int .i64 s.bo, .int .i64 s.pa, .int .i64 s.wh, .int .i64 s.al, .int .i64 s.lh, .int .i64 s.ri, .int .i64 s.dn]) 32)).heap[w.heap.size]? = some (.cells (stCells s) 32 (0, 0)) := heap_at _ _ _ rfl
  have bel : Below w.heap.size w (w.alloc (.cells (#[.int .i64 s.sh, .int .i64 s.fl, .int .i64 s.cl, .bool s.w.a, .bool s.w.p, .int .i64 s.w.n, .bool s.h.a, .bool s.h.p, .int .i64 s.h.n, .int .i64 s.mn, .int .i64 s.mx, .int .i64 s.mt, .bool s.mr.a, .bool s.mr.p, .int .i64 s.mr.n, .int .i64 s.mb, .bool s.ml.a, .bool s.ml.p, .int .i64 s.ml.n, .int .i64 s.bo, .int .i64 s.pa, .int .i64 s.wh, .int .i64 s.al, .int .i64 s.lh, .int .i64 s.ri, .int .i64 s.dn]) 32)) := (Below.refl _ _).alloc (Nat.le_refl _) _
  have GS := fun w => specGoodStyle_any s w
  have EX := fun w => l1In_any b 0 1000000 w
  unfold gdB
  cases hst : styleB s
  · rw [hst] at GS
    clear hst
    go_enter Tryd.func28, Tryd.ntmps28
    go_wp2_with ((with_reducible show wpList _ _ _ (⟨some 5, Op.load 32 _, _, _, _, _⟩ :: _) _ _); refine wpList_load_row rfl 32 _ rfl (w.heap.size) rfl _ (stCells s) _ _ l0 Tryd.underlying32 rfl (by kernel_rfl) ?_)
    refine (GS _).mono ?_
    rintro e w1 ⟨rfl, hb⟩
    replace bel := bel.trans (hb.mono bel.size)
    go_wp2
    go_ret
    exact ⟨rfl, bel⟩
  · rw [hst] at GS
    rw [Bool.true_and]
    generalize inB 0 1000000 b = r at EX ⊢
    clear hst
    go_enter Tryd.func28, Tryd.ntmps28
    go_wp2_with ((with_reducible show wpList _ _ _ (⟨some 5, Op.load 32 _, _, _, _, _⟩ :: _) _ _); refine wpList_load_row rfl 32 _ rfl (w.heap.size) rfl _ (stCells s) _ _ l0 Tryd.underlying32 rfl (by kernel_rfl) ?_)
    refine (GS _).mono ?_
    rintro e w1 ⟨rfl, hb⟩
    replace bel := bel.trans (hb.mono bel.size)
    go_wp2_with (go_at_call 35; refine (EX _).mono ?_; rintro e w' ⟨rfl, hw⟩; have hw := hw.symm; subst hw)
    go_ret
    exact ⟨rfl, bel⟩
theorem range_part {W : World} {g : Nat} {c : Array Value} {t : TypeId} {fr : Nat × Nat} {L : List Value} (h : W.heap[g]? = some (.cells c t fr)) (o : Nat) (hL : (c.toList.drop o).take L.length = L) : W.rangeAt g o L := fun j v hj => by
  have hlt : j < L.length := (List.getElem?_eq_some_iff.1 hj).1
  have h1 : (c.toList.drop o)[j]? = some v := by
    rw [← hL, List.getElem?_take_of_lt hlt] at hj
    exact hj
  rw [List.getElem?_drop] at h1
  exact (lies_cell h (o + j)).trans (by simpa using h1)
theorem wp_putA {o : Oper} {a : Act} {w : World} {K : Act → World → Prop} {Q : Exit → Act → World → Prop} (ty : TypeId) (x y : Operand) (ho : o.op = .store ty x y)
    (hd : o.dst = none) (g i n : Nat) (vs : List Value) (c : Array Value) (t : TypeId) (hx : a.eval x = .pointer (some ⟨g, i, none⟩)) (hy : (a.eval y).cells.toList = vs)
    (hg : w.heap[g]? = some (.cells c t (0, 0))) (hn : c.size = n) (hi : (Tryd.prog.info? ty).map (·.size) = some vs.length) (hl : Nat.ble (i + vs.length) n = true) (h1 : vs.all (·.oneCell') = true)
    (h : ∀ w', Put g w w' → w'.heap[g]? = some (.cells (putA c i vs) t (0, 0)) → K a w') : o.wp Tryd.prog a w K Q := by
  have hl' : i + vs.length ≤ c.size := by rw [hn]; exact Nat.le_of_ble_eq_true hl
  unfold Oper.wp execOp
  have hs := run_storeCells_at (P := Tryd.prog) g i t vs 0 c w hg (by simpa using hl') (fun v hv => (List.all_eq_true.1 h1) v hv)
  simp only [Nat.add_zero] at hs
  cases hq : Tryd.prog.info? ty with
  | none => simp [hq] at hi
  | some inf =>
    have hsz : (a.eval y).cells.size = inf.size := by
      have := congrArg List.length hy
      simp [hq] at hi
      simp at this
      omega
    have hsv : (storeVar ty ⟨g, i, none⟩ (a.eval y)).run Tryd.prog w = .ok () (w.setRow g (c.toList.take i ++ vs ++ c.toList.drop (i + vs.length)).toArray) := by
      simp [storeVar, sizeOf, typeInfo, hq, hsz, hy, hs]
    simp only [ho, hx, Instr.storeAt, Instr.sureAddr, Sem.run_bind, Sem.run_pure, Result.andThen_ok, hsv]
    have hf : K (a.put o.dst undef) (w.setRow g (c.toList.take i ++ vs ++ c.toList.drop (i + vs.length)).toArray) := by
      rw [hd]
      refine h _ (put_setRow _ _ _) ?_
      rw [putA, putL_eq vs c.toList i (by simpa using hl')]
      exact setRow_heap w g c _ t _ hg
    exact hf
/-- What stands all along: the style and the result in memory, and nothing old has turned. -/
def Sw (s : St) (w : World) (W : World) : Prop := Below w.heap.size w W ∧ W.heap[w.heap.size]? = some (.cells (stCells s) 32 (0, 0)) ∧ W.heap[w.heap.size + 1]? = some (.cells (#[.int .i64 0, .int .i64 0, .int .i64 0]) 27 (0, 0))
theorem Sw_call {s : St} {w W W' : World} (h : Sw s w W) (hb : Below W.heap.size W W') : Sw s w W' := ⟨h.1.trans (hb.mono h.1.size), below_lies hb h.2.1 (lies_lt h.2.1), below_lies hb h.2.2 (lies_lt h.2.2)⟩
theorem Sw_alloc {s : St} {w W : World} (h : Sw s w W) (o : Obj) : Sw s w (W.alloc o) := ⟨h.1.alloc h.1.size o, heap_in h.2.1, heap_in h.2.2⟩
theorem Sw_put {s : St} {w W W' : World} {p : Nat} (h : Sw s w W) (hp : Put p W W') (hne : w.heap.size + 1 < p) : Sw s w W' := ⟨hp.below h.1 (by omega), hp.lies h.2.1 (by omega), hp.lies h.2.2 (by omega)⟩
end Go.Proofs.YtijondjiehoafaaDoor
