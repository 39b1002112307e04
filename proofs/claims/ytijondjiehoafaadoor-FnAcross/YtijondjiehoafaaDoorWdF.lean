/-
  The program's FloatAcross, for every style and every three numbers.
-/
import Derived.Test.YtijondjiehoafaaDoorWdK
namespace Go.Proofs.YtijondjiehoafaaDoor
open Go.ChangeShapes Go.WideShapes Go.ChangeAt Go.RowKit
set_option linter.unusedVariables false

set_option maxRecDepth 100000 in
set_option maxHeartbeats 4000000 in
theorem float_a (s : St) (b nr wi : Int) (w : World) (et : TypeId) (ev : Value) (he : w.cell? ⟨1, 0, none⟩ = some (.iface et ev)) (ha : okA s b = false) :
    Calls Tryd.prog 13 #[.agg #[.int .i64 s.sh, .int .i64 s.fl, .int .i64 s.cl, .bool s.w.a, .bool s.w.p, .int .i64 s.w.n, .bool s.h.a, .bool s.h.p, .int .i64 s.h.n, .int .i64 s.mn, .int .i64 s.mx, .int .i64 s.mt, .bool s.mr.a, .bool s.mr.p, .int .i64 s.mr.n, .int .i64 s.mb, .bool s.ml.a, .bool s.ml.p, .int .i64 s.ml.n, .int .i64 s.bo, .int .i64 s.pa, .int .i64 s.wh, .int .i64 s.al, .int .i64 s.lh, .int .i64 s.ri, .int .i64 s.dn], .int .i64 b, .int .i64 nr, .int .i64 wi] w fun e w' => e = .returned (.tuple #[.agg (#[.int .i64 0, .int .i64 0, .int .i64 0]), .bool false]) ∧ Below w.heap.size w w' := by
  have l0 : ((w.alloc (.cells (#[.int .i64 s.sh, .int .i64 s.fl, .int .i64 s.cl, .bool s.w.a, .bool s.w.p, .int .i64 s.w.n, .bool s.h.a, .bool s.h.p, .int .i64 s.h.n, .int .i64 s.mn, .int .i64 s.mx, .int .i64 s.mt, .bool s.mr.a, .bool s.mr.p, .int .i64 s.mr.n, .int .i64 s.mb, .bool s.ml.a, .bool s.ml.p, .int .i64 s.ml.n, .int .i64 s.bo, .int .i64 s.pa, .int .i64 s.wh, .int .i64 s.al, .int .i64 s.lh, .int .i64 s.ri, .int .i64 s.dn]) 32)).alloc (.cells (#[.int .i64 0, .int .i64 0, .int .i64 0]) 27)).heap[w.heap.size]? = some (.cells (stCells s) 32 (0, 0)) := heap_in (heap_at _ _ _ rfl)
  have l1 : ((w.alloc (.cells (#[.int .i64 s.sh, .int .i64 s.fl, .int .i64 s.cl, .bool s.w.a, .bool s.w.p, .int .i64 s.w.n, .bool s.h.a, .bool s.h.p, .int .i64 s.h.n, .int .i64 s.mn, .int .i64 s.mx, .int .i64 s.mt, .bool s.mr.a, .bool s.mr.p, .int .i64 s.mr.n, .int .i64 s.mb, .bool s.ml.a, .bool s.ml.p, .int .i64 s.ml.n, .int .i64 s.bo, .int .i64 s.pa, .int .i64 s.wh, .int .i64 s.al, .int .i64 s.lh, .int .i64 s.ri, .int .i64 s.dn]) 32)).alloc (.cells (#[.int .i64 0, .int .i64 0, .int .i64 0]) 27)).heap[w.heap.size + 1]? = some (.cells (#[.int .i64 0, .int .i64 0, .int .i64 0]) 27 (0, 0)) := heap_at _ _ _ (by simp)
  have bel : Below w.heap.size w ((w.alloc (.cells (#[.int .i64 s.sh, .int .i64 s.fl, .int .i64 s.cl, .bool s.w.a, .bool s.w.p, .int .i64 s.w.n, .bool s.h.a, .bool s.h.p, .int .i64 s.h.n, .int .i64 s.mn, .int .i64 s.mx, .int .i64 s.mt, .bool s.mr.a, .bool s.mr.p, .int .i64 s.mr.n, .int .i64 s.mb, .bool s.ml.a, .bool s.ml.p, .int .i64 s.ml.n, .int .i64 s.bo, .int .i64 s.pa, .int .i64 s.wh, .int .i64 s.al, .int .i64 s.lh, .int .i64 s.ri, .int .i64 s.dn]) 32)).alloc (.cells (#[.int .i64 0, .int .i64 0, .int .i64 0]) 27)) := ((Below.refl _ _).alloc (Nat.le_refl _) _).alloc (by simp) _
  have lte : 1 < w.heap.size := World.block_lt_of_cell? _ ⟨1, 0, none⟩ he
  have IT := isTold_any s b ((w.alloc (.cells (#[.int .i64 s.sh, .int .i64 s.fl, .int .i64 s.cl, .bool s.w.a, .bool s.w.p, .int .i64 s.w.n, .bool s.h.a, .bool s.h.p, .int .i64 s.h.n, .int .i64 s.mn, .int .i64 s.mx, .int .i64 s.mt, .bool s.mr.a, .bool s.mr.p, .int .i64 s.mr.n, .int .i64 s.mb, .bool s.ml.a, .bool s.ml.p, .int .i64 s.ml.n, .int .i64 s.bo, .int .i64 s.pa, .int .i64 s.wh, .int .i64 s.al, .int .i64 s.lh, .int .i64 s.ri, .int .i64 s.dn]) 32)).alloc (.cells (#[.int .i64 0, .int .i64 0, .int .i64 0]) 27)) et ev ((bel.cell (p := ⟨1, 0, none⟩) lte).trans he)
  clear he
  rw [ha] at IT
  clear ha
  go_enter Tryd.func13, Tryd.ntmps13
  go_wp2_with ((with_reducible show wpList _ _ _ (⟨some 10, Op.load 32 _, _, _, _, _⟩ :: _) _ _); refine wpList_load_row rfl 32 _ rfl (w.heap.size) rfl _ (stCells s) _ _ l0 Tryd.underlying32 rfl (by kernel_rfl) ?_)
  refine IT.mono ?_
  rintro e w1 ⟨rfl, hb⟩
  replace bel := bel.trans (hb.mono bel.size)
  replace l0 := below_lies hb l0 (lies_lt l0)
  replace l1 := below_lies hb l1 (lies_lt l1)
  clear hb
  go_wp2_with ((with_reducible show wpList _ _ _ (⟨none, Op.store 27 (Operand.tmp 8) (Operand.tmp 24), _, _, _, _⟩ :: _) _ _); refine wpList_putA rfl _ _ _ rfl rfl _ 0 3 [.int .i64 0, .int .i64 0, .int .i64 0] _ _ rfl rfl l1 rfl (by kernel_rfl) (by kernel_rfl) (by kernel_rfl) ?_; intro w9 p9 l9 n9; replace l1 := l9.trans (congrArg (fun c => some (Obj.cells c 27 (0, 0))) (show _ = (#[.int .i64 0, .int .i64 0, .int .i64 0] : Array Value) by kernel_rfl)); replace l0 := p9.lies l0 (by omega); replace bel := p9.below bel (by omega); clear l9 n9 p9)
  exact bodyPost_ret (v := .tuple #[.agg (#[.int .i64 0, .int .i64 0, .int .i64 0]), .bool false]) (results_row_tmp Tryd.results13 _ _ _ _ (#[.int .i64 0, .int .i64 0, .int .i64 0]) _ _ _ rfl l1 Tryd.underlying27 rfl (by kernel_rfl) rfl) rfl ⟨rfl, bel⟩
set_option maxRecDepth 100000 in
set_option maxHeartbeats 4000000 in
theorem float_n (s : St) (b nr wi : Int) (w : World) (et : TypeId) (ev : Value) (he : w.cell? ⟨1, 0, none⟩ = some (.iface et ev)) (ha : okA s b = true) (h1 : inB 0 1000000 nr = false) :
    Calls Tryd.prog 13 #[.agg #[.int .i64 s.sh, .int .i64 s.fl, .int .i64 s.cl, .bool s.w.a, .bool s.w.p, .int .i64 s.w.n, .bool s.h.a, .bool s.h.p, .int .i64 s.h.n, .int .i64 s.mn, .int .i64 s.mx, .int .i64 s.mt, .bool s.mr.a, .bool s.mr.p, .int .i64 s.mr.n, .int .i64 s.mb, .bool s.ml.a, .bool s.ml.p, .int .i64 s.ml.n, .int .i64 s.bo, .int .i64 s.pa, .int .i64 s.wh, .int .i64 s.al, .int .i64 s.lh, .int .i64 s.ri, .int .i64 s.dn], .int .i64 b, .int .i64 nr, .int .i64 wi] w fun e w' => e = .returned (.tuple #[.agg (#[.int .i64 0, .int .i64 0, .int .i64 0]), .bool false]) ∧ Below w.heap.size w w' := by
  have l0 : ((w.alloc (.cells (#[.int .i64 s.sh, .int .i64 s.fl, .int .i64 s.cl, .bool s.w.a, .bool s.w.p, .int .i64 s.w.n, .bool s.h.a, .bool s.h.p, .int .i64 s.h.n, .int .i64 s.mn, .int .i64 s.mx, .int .i64 s.mt, .bool s.mr.a, .bool s.mr.p, .int .i64 s.mr.n, .int .i64 s.mb, .bool s.ml.a, .bool s.ml.p, .int .i64 s.ml.n, .int .i64 s.bo, .int .i64 s.pa, .int .i64 s.wh, .int .i64 s.al, .int .i64 s.lh, .int .i64 s.ri, .int .i64 s.dn]) 32)).alloc (.cells (#[.int .i64 0, .int .i64 0, .int .i64 0]) 27)).heap[w.heap.size]? = some (.cells (stCells s) 32 (0, 0)) := heap_in (heap_at _ _ _ rfl)
  have l1 : ((w.alloc (.cells (#[.int .i64 s.sh, .int .i64 s.fl, .int .i64 s.cl, .bool s.w.a, .bool s.w.p, .int .i64 s.w.n, .bool s.h.a, .bool s.h.p, .int .i64 s.h.n, .int .i64 s.mn, .int .i64 s.mx, .int .i64 s.mt, .bool s.mr.a, .bool s.mr.p, .int .i64 s.mr.n, .int .i64 s.mb, .bool s.ml.a, .bool s.ml.p, .int .i64 s.ml.n, .int .i64 s.bo, .int .i64 s.pa, .int .i64 s.wh, .int .i64 s.al, .int .i64 s.lh, .int .i64 s.ri, .int .i64 s.dn]) 32)).alloc (.cells (#[.int .i64 0, .int .i64 0, .int .i64 0]) 27)).heap[w.heap.size + 1]? = some (.cells (#[.int .i64 0, .int .i64 0, .int .i64 0]) 27 (0, 0)) := heap_at _ _ _ (by simp)
  have bel : Below w.heap.size w ((w.alloc (.cells (#[.int .i64 s.sh, .int .i64 s.fl, .int .i64 s.cl, .bool s.w.a, .bool s.w.p, .int .i64 s.w.n, .bool s.h.a, .bool s.h.p, .int .i64 s.h.n, .int .i64 s.mn, .int .i64 s.mx, .int .i64 s.mt, .bool s.mr.a, .bool s.mr.p, .int .i64 s.mr.n, .int .i64 s.mb, .bool s.ml.a, .bool s.ml.p, .int .i64 s.ml.n, .int .i64 s.bo, .int .i64 s.pa, .int .i64 s.wh, .int .i64 s.al, .int .i64 s.lh, .int .i64 s.ri, .int .i64 s.dn]) 32)).alloc (.cells (#[.int .i64 0, .int .i64 0, .int .i64 0]) 27)) := ((Below.refl _ _).alloc (Nat.le_refl _) _).alloc (by simp) _
  have lte : 1 < w.heap.size := World.block_lt_of_cell? _ ⟨1, 0, none⟩ he
  have IT := isTold_any s b ((w.alloc (.cells (#[.int .i64 s.sh, .int .i64 s.fl, .int .i64 s.cl, .bool s.w.a, .bool s.w.p, .int .i64 s.w.n, .bool s.h.a, .bool s.h.p, .int .i64 s.h.n, .int .i64 s.mn, .int .i64 s.mx, .int .i64 s.mt, .bool s.mr.a, .bool s.mr.p, .int .i64 s.mr.n, .int .i64 s.mb, .bool s.ml.a, .bool s.ml.p, .int .i64 s.ml.n, .int .i64 s.bo, .int .i64 s.pa, .int .i64 s.wh, .int .i64 s.al, .int .i64 s.lh, .int .i64 s.ri, .int .i64 s.dn]) 32)).alloc (.cells (#[.int .i64 0, .int .i64 0, .int .i64 0]) 27)) et ev ((bel.cell (p := ⟨1, 0, none⟩) lte).trans he)
  clear he
  have E1 := fun w => isExtent_any nr w
  have E2 := fun w => isExtent_any wi w
  rw [ha] at IT
  rw [h1] at E1
  clear ha h1
  go_enter Tryd.func13, Tryd.ntmps13
  go_wp2_with ((with_reducible show wpList _ _ _ (⟨some 10, Op.load 32 _, _, _, _, _⟩ :: _) _ _); refine wpList_load_row rfl 32 _ rfl (w.heap.size) rfl _ (stCells s) _ _ l0 Tryd.underlying32 rfl (by kernel_rfl) ?_)
  refine IT.mono ?_
  rintro e w1 ⟨rfl, hb⟩
  replace bel := bel.trans (hb.mono bel.size)
  replace l0 := below_lies hb l0 (lies_lt l0)
  replace l1 := below_lies hb l1 (lies_lt l1)
  clear hb
  go_wp2_with (first | (go_at_call 37; refine (E1 _).mono ?_; rintro e w' ⟨rfl, hw⟩; have hw := hw.symm; subst hw) | (go_at_call 37; refine (E2 _).mono ?_; rintro e w' ⟨rfl, hw⟩; have hw := hw.symm; subst hw) | ((with_reducible show wpList _ _ _ (⟨none, Op.store 27 (Operand.tmp 8) (Operand.tmp 24), _, _, _, _⟩ :: _) _ _); refine wpList_putA rfl _ _ _ rfl rfl _ 0 3 [.int .i64 0, .int .i64 0, .int .i64 0] _ _ rfl rfl l1 rfl (by kernel_rfl) (by kernel_rfl) (by kernel_rfl) ?_; intro w9 p9 l9 n9; replace l1 := l9.trans (congrArg (fun c => some (Obj.cells c 27 (0, 0))) (show _ = (#[.int .i64 0, .int .i64 0, .int .i64 0] : Array Value) by kernel_rfl)); replace l0 := p9.lies l0 (by omega); replace bel := p9.below bel (by omega); clear l9 n9 p9))
  exact bodyPost_ret (v := .tuple #[.agg (#[.int .i64 0, .int .i64 0, .int .i64 0]), .bool false]) (results_row_tmp Tryd.results13 _ _ _ _ (#[.int .i64 0, .int .i64 0, .int .i64 0]) _ _ _ rfl l1 Tryd.underlying27 rfl (by kernel_rfl) rfl) rfl ⟨rfl, bel⟩
set_option maxRecDepth 100000 in
set_option maxHeartbeats 4000000 in
theorem float_w (s : St) (b nr wi : Int) (w : World) (et : TypeId) (ev : Value) (he : w.cell? ⟨1, 0, none⟩ = some (.iface et ev)) (ha : okA s b = true) (h1 : inB 0 1000000 nr = true) (h2 : inB 0 1000000 wi = false) :
    Calls Tryd.prog 13 #[.agg #[.int .i64 s.sh, .int .i64 s.fl, .int .i64 s.cl, .bool s.w.a, .bool s.w.p, .int .i64 s.w.n, .bool s.h.a, .bool s.h.p, .int .i64 s.h.n, .int .i64 s.mn, .int .i64 s.mx, .int .i64 s.mt, .bool s.mr.a, .bool s.mr.p, .int .i64 s.mr.n, .int .i64 s.mb, .bool s.ml.a, .bool s.ml.p, .int .i64 s.ml.n, .int .i64 s.bo, .int .i64 s.pa, .int .i64 s.wh, .int .i64 s.al, .int .i64 s.lh, .int .i64 s.ri, .int .i64 s.dn], .int .i64 b, .int .i64 nr, .int .i64 wi] w fun e w' => e = .returned (.tuple #[.agg (#[.int .i64 0, .int .i64 0, .int .i64 0]), .bool false]) ∧ Below w.heap.size w w' := by
  have l0 : ((w.alloc (.cells (#[.int .i64 s.sh, .int .i64 s.fl, .int .i64 s.cl, .bool s.w.a, .bool s.w.p, .int .i64 s.w.n, .bool s.h.a, .bool s.h.p, .int .i64 s.h.n, .int .i64 s.mn, .int .i64 s.mx, .int .i64 s.mt, .bool s.mr.a, .bool s.mr.p, .int .i64 s.mr.n, .int .i64 s.mb, .bool s.ml.a, .bool s.ml.p, .int .i64 s.ml.n, .int .i64 s.bo, .int .i64 s.pa, .int .i64 s.wh, .int .i64 s.al, .int .i64 s.lh, .int .i64 s.ri, .int .i64 s.dn]) 32)).alloc (.cells (#[.int .i64 0, .int .i64 0, .int .i64 0]) 27)).heap[w.heap.size]? = some (.cells (stCells s) 32 (0, 0)) := heap_in (heap_at _ _ _ rfl)
  have l1 : ((w.alloc (.cells (#[.int .i64 s.sh, .int .i64 s.fl, .int .i64 s.cl, .bool s.w.a, .bool s.w.p, .int .i64 s.w.n, .bool s.h.a, .bool s.h.p, .int .i64 s.h.n, .int .i64 s.mn, .int .i64 s.mx, .int .i64 s.mt, .bool s.mr.a, .bool s.mr.p, .int .i64 s.mr.n, .int .i64 s.mb, .bool s.ml.a, .bool s.ml.p, .int .i64 s.ml.n, .int .i64 s.bo, .int .i64 s.pa, .int .i64 s.wh, .int .i64 s.al, .int .i64 s.lh, .int .i64 s.ri, .int .i64 s.dn]) 32)).alloc (.cells (#[.int .i64 0, .int .i64 0, .int .i64 0]) 27)).heap[w.heap.size + 1]? = some (.cells (#[.int .i64 0, .int .i64 0, .int .i64 0]) 27 (0, 0)) := heap_at _ _ _ (by simp)
  have bel : Below w.heap.size w ((w.alloc (.cells (#[.int .i64 s.sh, .int .i64 s.fl, .int .i64 s.cl, .bool s.w.a, .bool s.w.p, .int .i64 s.w.n, .bool s.h.a, .bool s.h.p, .int .i64 s.h.n, .int .i64 s.mn, .int .i64 s.mx, .int .i64 s.mt, .bool s.mr.a, .bool s.mr.p, .int .i64 s.mr.n, .int .i64 s.mb, .bool s.ml.a, .bool s.ml.p, .int .i64 s.ml.n, .int .i64 s.bo, .int .i64 s.pa, .int .i64 s.wh, .int .i64 s.al, .int .i64 s.lh, .int .i64 s.ri, .int .i64 s.dn]) 32)).alloc (.cells (#[.int .i64 0, .int .i64 0, .int .i64 0]) 27)) := ((Below.refl _ _).alloc (Nat.le_refl _) _).alloc (by simp) _
  have lte : 1 < w.heap.size := World.block_lt_of_cell? _ ⟨1, 0, none⟩ he
  have IT := isTold_any s b ((w.alloc (.cells (#[.int .i64 s.sh, .int .i64 s.fl, .int .i64 s.cl, .bool s.w.a, .bool s.w.p, .int .i64 s.w.n, .bool s.h.a, .bool s.h.p, .int .i64 s.h.n, .int .i64 s.mn, .int .i64 s.mx, .int .i64 s.mt, .bool s.mr.a, .bool s.mr.p, .int .i64 s.mr.n, .int .i64 s.mb, .bool s.ml.a, .bool s.ml.p, .int .i64 s.ml.n, .int .i64 s.bo, .int .i64 s.pa, .int .i64 s.wh, .int .i64 s.al, .int .i64 s.lh, .int .i64 s.ri, .int .i64 s.dn]) 32)).alloc (.cells (#[.int .i64 0, .int .i64 0, .int .i64 0]) 27)) et ev ((bel.cell (p := ⟨1, 0, none⟩) lte).trans he)
  clear he
  have E1 := fun w => isExtent_any nr w
  have E2 := fun w => isExtent_any wi w
  rw [ha] at IT
  rw [h1] at E1
  rw [h2] at E2
  clear ha h1 h2
  go_enter Tryd.func13, Tryd.ntmps13
  go_wp2_with ((with_reducible show wpList _ _ _ (⟨some 10, Op.load 32 _, _, _, _, _⟩ :: _) _ _); refine wpList_load_row rfl 32 _ rfl (w.heap.size) rfl _ (stCells s) _ _ l0 Tryd.underlying32 rfl (by kernel_rfl) ?_)
  refine IT.mono ?_
  rintro e w1 ⟨rfl, hb⟩
  replace bel := bel.trans (hb.mono bel.size)
  replace l0 := below_lies hb l0 (lies_lt l0)
  replace l1 := below_lies hb l1 (lies_lt l1)
  clear hb
  go_wp2_with (first | (go_at_call 37; refine (E1 _).mono ?_; rintro e w' ⟨rfl, hw⟩; have hw := hw.symm; subst hw) | (go_at_call 37; refine (E2 _).mono ?_; rintro e w' ⟨rfl, hw⟩; have hw := hw.symm; subst hw) | ((with_reducible show wpList _ _ _ (⟨none, Op.store 27 (Operand.tmp 8) (Operand.tmp 24), _, _, _, _⟩ :: _) _ _); refine wpList_putA rfl _ _ _ rfl rfl _ 0 3 [.int .i64 0, .int .i64 0, .int .i64 0] _ _ rfl rfl l1 rfl (by kernel_rfl) (by kernel_rfl) (by kernel_rfl) ?_; intro w9 p9 l9 n9; replace l1 := l9.trans (congrArg (fun c => some (Obj.cells c 27 (0, 0))) (show _ = (#[.int .i64 0, .int .i64 0, .int .i64 0] : Array Value) by kernel_rfl)); replace l0 := p9.lies l0 (by omega); replace bel := p9.below bel (by omega); clear l9 n9 p9))
  exact bodyPost_ret (v := .tuple #[.agg (#[.int .i64 0, .int .i64 0, .int .i64 0]), .bool false]) (results_row_tmp Tryd.results13 _ _ _ _ (#[.int .i64 0, .int .i64 0, .int .i64 0]) _ _ _ rfl l1 Tryd.underlying27 rfl (by kernel_rfl) rfl) rfl ⟨rfl, bel⟩
set_option maxRecDepth 100000 in
set_option maxHeartbeats 4000000 in
theorem float_auto (s : St) (b nr wi : Int) (w : World) (ha : okA s b = true) (hw : s.w.a = true) :
    Calls Tryd.prog 38 #[.agg #[.int .i64 s.sh, .int .i64 s.fl, .int .i64 s.cl, .bool s.w.a, .bool s.w.p, .int .i64 s.w.n, .bool s.h.a, .bool s.h.p, .int .i64 s.h.n, .int .i64 s.mn, .int .i64 s.mx, .int .i64 s.mt, .bool s.mr.a, .bool s.mr.p, .int .i64 s.mr.n, .int .i64 s.mb, .bool s.ml.a, .bool s.ml.p, .int .i64 s.ml.n, .int .i64 s.bo, .int .i64 s.pa, .int .i64 s.wh, .int .i64 s.al, .int .i64 s.lh, .int .i64 s.ri, .int .i64 s.dn], .int .i64 b, .int .i64 nr, .int .i64 wi] w fun e w' => e = .returned (.agg (#[.int .i64 (mlN s b), .int .i64 (flW s b nr wi), .int .i64 (mrN s b)])) ∧ Below w.heap.size w w' := by
  have l0 : ((w.alloc (.cells (#[.int .i64 s.sh, .int .i64 s.fl, .int .i64 s.cl, .bool s.w.a, .bool s.w.p, .int .i64 s.w.n, .bool s.h.a, .bool s.h.p, .int .i64 s.h.n, .int .i64 s.mn, .int .i64 s.mx, .int .i64 s.mt, .bool s.mr.a, .bool s.mr.p, .int .i64 s.mr.n, .int .i64 s.mb, .bool s.ml.a, .bool s.ml.p, .int .i64 s.ml.n, .int .i64 s.bo, .int .i64 s.pa, .int .i64 s.wh, .int .i64 s.al, .int .i64 s.lh, .int .i64 s.ri, .int .i64 s.dn]) 32)).alloc (.cells (#[.int .i64 0, .int .i64 0, .int .i64 0]) 27)).heap[w.heap.size]? = some (.cells (stCells s) 32 (0, 0)) := heap_in (heap_at _ _ _ rfl)
  have l1 : ((w.alloc (.cells (#[.int .i64 s.sh, .int .i64 s.fl, .int .i64 s.cl, .bool s.w.a, .bool s.w.p, .int .i64 s.w.n, .bool s.h.a, .bool s.h.p, .int .i64 s.h.n, .int .i64 s.mn, .int .i64 s.mx, .int .i64 s.mt, .bool s.mr.a, .bool s.mr.p, .int .i64 s.mr.n, .int .i64 s.mb, .bool s.ml.a, .bool s.ml.p, .int .i64 s.ml.n, .int .i64 s.bo, .int .i64 s.pa, .int .i64 s.wh, .int .i64 s.al, .int .i64 s.lh, .int .i64 s.ri, .int .i64 s.dn]) 32)).alloc (.cells (#[.int .i64 0, .int .i64 0, .int .i64 0]) 27)).heap[w.heap.size + 1]? = some (.cells (#[.int .i64 0, .int .i64 0, .int .i64 0]) 27 (0, 0)) := heap_at _ _ _ (by simp)
  have bel : Below w.heap.size w ((w.alloc (.cells (#[.int .i64 s.sh, .int .i64 s.fl, .int .i64 s.cl, .bool s.w.a, .bool s.w.p, .int .i64 s.w.n, .bool s.h.a, .bool s.h.p, .int .i64 s.h.n, .int .i64 s.mn, .int .i64 s.mx, .int .i64 s.mt, .bool s.mr.a, .bool s.mr.p, .int .i64 s.mr.n, .int .i64 s.mb, .bool s.ml.a, .bool s.ml.p, .int .i64 s.ml.n, .int .i64 s.bo, .int .i64 s.pa, .int .i64 s.wh, .int .i64 s.al, .int .i64 s.lh, .int .i64 s.ri, .int .i64 s.dn]) 32)).alloc (.cells (#[.int .i64 0, .int .i64 0, .int .i64 0]) 27)) := ((Below.refl _ _).alloc (Nat.le_refl _) _).alloc (by simp) _
  obtain ⟨hs, hb0, i1, i2, i3⟩ := okA_yes ha
  obtain ⟨k1, k2⟩ := inB_yes hb0
  obtain ⟨k3, k4⟩ := inB_yes i1
  obtain ⟨k5, k6⟩ := inB_yes i3
  have RM := fun w => room_any s b (mlN s b) (wdN s b) (mrN s b) w hs k1 k2 k3 k4 k5 k6
  have CU := fun w => cut_any s (mlN s b) (flW0 s b nr wi) (mrN s b) w
  have HY : Hid (min wi (max nr (b - eg s - mlN s b - mrN s b)) = flW0 s b nr wi) := by show _ = _; unfold flW0; rw [if_pos hw]
  unfold flW
  generalize clZ (flW0 s b nr wi) s.mn s.mx = cw at CU ⊢
  generalize b - eg s - mlN s b - mrN s b = rm at RM HY
  rw [← HY.out] at CU
  have TD := told_any s b ((w.alloc (.cells (#[.int .i64 s.sh, .int .i64 s.fl, .int .i64 s.cl, .bool s.w.a, .bool s.w.p, .int .i64 s.w.n, .bool s.h.a, .bool s.h.p, .int .i64 s.h.n, .int .i64 s.mn, .int .i64 s.mx, .int .i64 s.mt, .bool s.mr.a, .bool s.mr.p, .int .i64 s.mr.n, .int .i64 s.mb, .bool s.ml.a, .bool s.ml.p, .int .i64 s.ml.n, .int .i64 s.bo, .int .i64 s.pa, .int .i64 s.wh, .int .i64 s.al, .int .i64 s.lh, .int .i64 s.ri, .int .i64 s.dn]) 32)).alloc (.cells (#[.int .i64 0, .int .i64 0, .int .i64 0]) 27)) (okA_yes ha).1 (okA_yes ha).2.1
  generalize mlN s b = vl at TD RM CU ⊢
  generalize wdN s b = vd at TD RM
  generalize mrN s b = vm at TD RM CU ⊢
  have c3 : Hid (∀ W : World, W.heap[w.heap.size]? = some (.cells (stCells s) 32 (0, 0)) → W.cell? ⟨w.heap.size, 3, none⟩ = some (.bool true)) := fun W h => (lies_cell h 3).trans (by show some (Value.bool s.w.a) = _; rw [hw])
  clear ha hw hs hb0 i1 i2 i3 k1 k2 k3 k4 k5 k6 HY
  go_enter Tryd.func38, Tryd.ntmps38
  go_wp2_with ((with_reducible show wpList _ _ _ (⟨some 10, Op.load 32 _, _, _, _, _⟩ :: _) _ _); refine wpList_load_row rfl 32 _ rfl (w.heap.size) rfl _ (stCells s) _ _ l0 Tryd.underlying32 rfl (by kernel_rfl) ?_)
  refine TD.mono ?_
  rintro e w1 ⟨rfl, hb⟩
  replace bel := bel.trans (hb.mono bel.size)
  replace l0 := below_lies hb l0 (lies_lt l0)
  replace l1 := below_lies hb l1 (lies_lt l1)
  clear hb
  have z1 : w.heap.size + 1 < w1.heap.size := lies_lt l1
  go_wp2_with (first | ((with_reducible show wpList _ _ _ (⟨none, Op.store 27 (Operand.tmp 9) (Operand.tmp 12), _, _, _, _⟩ :: _) _ _); refine wpList_store_new rfl 27 _ _ rfl rfl (#[.int .i64 vl, .int .i64 vd, .int .i64 vm]) 27 _ _ rfl rfl rfl (by kernel_rfl) rfl (by kernel_rfl) ?_; have l2 := heap_at w1 (.cells (#[.int .i64 vl, .int .i64 vd, .int .i64 vm]) 27) _ rfl; replace l0 := heap_in (o := .cells (#[.int .i64 vl, .int .i64 vd, .int .i64 vm]) 27) l0; replace l1 := heap_in (o := .cells (#[.int .i64 vl, .int .i64 vd, .int .i64 vm]) 27) l1; replace bel := bel.alloc bel.size (.cells (#[.int .i64 vl, .int .i64 vd, .int .i64 vm]) 27); have e3 := c3.out _ l0) | ((with_reducible show wpList _ _ _ (⟨some 18, Op.load 32 _, _, _, _, _⟩ :: _) _ _); refine wpList_load_row rfl 32 _ rfl (w.heap.size) rfl _ (stCells s) _ _ l0 Tryd.underlying32 rfl (by kernel_rfl) ?_) | ((with_reducible show wpList _ _ _ (⟨some 20, Op.load 27 _, _, _, _, _⟩ :: _) _ _); refine wpList_load_row rfl 27 _ rfl (w1.heap.size) rfl _ (#[.int .i64 vl, .int .i64 vd, .int .i64 vm]) _ _ l2 Tryd.underlying27 rfl (by kernel_rfl) ?_))
  refine (RM _).mono ?_
  rintro e w2 ⟨rfl, hb⟩
  replace bel := bel.trans (hb.mono bel.size)
  replace l0 := below_lies hb l0 (lies_lt l0)
  replace l1 := below_lies hb l1 (lies_lt l1)
  replace l2 := below_lies hb l2 (lies_lt l2)
  clear hb
  clear e3
  go_wp2_with (first | ((with_reducible show wpList _ _ _ (⟨none, Op.store 3 (Operand.tmp 24) _, _, _, _, _⟩ :: _) _ _); refine wpList_putA rfl _ _ _ rfl rfl _ 1 3 [.int .i64 (min wi (max nr rm))] _ _ rfl rfl l2 rfl (by kernel_rfl) (by kernel_rfl) (by kernel_rfl) ?_; intro w9 p9 l9 n9; replace l2 := l9.trans (congrArg (fun c => some (Obj.cells c 27 (0, 0))) (show _ = (#[.int .i64 vl, .int .i64 (min wi (max nr rm)), .int .i64 vm] : Array Value) by kernel_rfl)); replace l0 := p9.lies l0 (by omega); replace l1 := p9.lies l1 (by omega); replace bel := p9.below bel (by omega); clear l9 n9 p9) | ((with_reducible show wpList _ _ _ (⟨some 25, Op.load 32 _, _, _, _, _⟩ :: _) _ _); refine wpList_load_row rfl 32 _ rfl (w.heap.size) rfl _ (stCells s) _ _ l0 Tryd.underlying32 rfl (by kernel_rfl) ?_) | ((with_reducible show wpList _ _ _ (⟨some 26, Op.load 27 _, _, _, _, _⟩ :: _) _ _); refine wpList_load_row rfl 27 _ rfl (w1.heap.size) rfl _ (#[.int .i64 vl, .int .i64 (min wi (max nr rm)), .int .i64 vm]) _ _ l2 Tryd.underlying27 rfl (by kernel_rfl) ?_))
  refine (CU _).mono ?_
  rintro e w3 ⟨rfl, hb⟩
  replace bel := bel.trans (hb.mono bel.size)
  replace l0 := below_lies hb l0 (lies_lt l0)
  replace l1 := below_lies hb l1 (lies_lt l1)
  replace l2 := below_lies hb l2 (lies_lt l2)
  clear hb
  go_wp2_with ((with_reducible show wpList _ _ _ (⟨none, Op.store 27 (Operand.tmp 8) (Operand.tmp 27), _, _, _, _⟩ :: _) _ _); refine wpList_putA rfl _ _ _ rfl rfl _ 0 3 [.int .i64 vl, .int .i64 cw, .int .i64 vm] _ _ rfl rfl l1 rfl (by kernel_rfl) (by kernel_rfl) (by kernel_rfl) ?_; intro w9 p9 l9 n9; replace l1 := l9.trans (congrArg (fun c => some (Obj.cells c 27 (0, 0))) (show _ = (#[.int .i64 vl, .int .i64 cw, .int .i64 vm] : Array Value) by kernel_rfl)); replace bel := p9.below bel (by omega); clear l9 n9 p9)
  exact bodyPost_ret (v := .agg (#[.int .i64 vl, .int .i64 cw, .int .i64 vm])) (results_cell_row Tryd.results38 _ _ _ _ (#[.int .i64 vl, .int .i64 cw, .int .i64 vm]) _ _ rfl l1 Tryd.underlying27 rfl (by kernel_rfl)) rfl ⟨rfl, bel⟩
set_option maxRecDepth 100000 in
set_option maxHeartbeats 4000000 in
theorem float_told (s : St) (b nr wi : Int) (w : World) (ha : okA s b = true) (hw : s.w.a = false) :
    Calls Tryd.prog 38 #[.agg #[.int .i64 s.sh, .int .i64 s.fl, .int .i64 s.cl, .bool s.w.a, .bool s.w.p, .int .i64 s.w.n, .bool s.h.a, .bool s.h.p, .int .i64 s.h.n, .int .i64 s.mn, .int .i64 s.mx, .int .i64 s.mt, .bool s.mr.a, .bool s.mr.p, .int .i64 s.mr.n, .int .i64 s.mb, .bool s.ml.a, .bool s.ml.p, .int .i64 s.ml.n, .int .i64 s.bo, .int .i64 s.pa, .int .i64 s.wh, .int .i64 s.al, .int .i64 s.lh, .int .i64 s.ri, .int .i64 s.dn], .int .i64 b, .int .i64 nr, .int .i64 wi] w fun e w' => e = .returned (.agg (#[.int .i64 (mlN s b), .int .i64 (flW s b nr wi), .int .i64 (mrN s b)])) ∧ Below w.heap.size w w' := by
  have l0 : ((w.alloc (.cells (#[.int .i64 s.sh, .int .i64 s.fl, .int .i64 s.cl, .bool s.w.a, .bool s.w.p, .int .i64 s.w.n, .bool s.h.a, .bool s.h.p, .int .i64 s.h.n, .int .i64 s.mn, .int .i64 s.mx, .int .i64 s.mt, .bool s.mr.a, .bool s.mr.p, .int .i64 s.mr.n, .int .i64 s.mb, .bool s.ml.a, .bool s.ml.p, .int .i64 s.ml.n, .int .i64 s.bo, .int .i64 s.pa, .int .i64 s.wh, .int .i64 s.al, .int .i64 s.lh, .int .i64 s.ri, .int .i64 s.dn]) 32)).alloc (.cells (#[.int .i64 0, .int .i64 0, .int .i64 0]) 27)).heap[w.heap.size]? = some (.cells (stCells s) 32 (0, 0)) := heap_in (heap_at _ _ _ rfl)
  have l1 : ((w.alloc (.cells (#[.int .i64 s.sh, .int .i64 s.fl, .int .i64 s.cl, .bool s.w.a, .bool s.w.p, .int .i64 s.w.n, .bool s.h.a, .bool s.h.p, .int .i64 s.h.n, .int .i64 s.mn, .int .i64 s.mx, .int .i64 s.mt, .bool s.mr.a, .bool s.mr.p, .int .i64 s.mr.n, .int .i64 s.mb, .bool s.ml.a, .bool s.ml.p, .int .i64 s.ml.n, .int .i64 s.bo, .int .i64 s.pa, .int .i64 s.wh, .int .i64 s.al, .int .i64 s.lh, .int .i64 s.ri, .int .i64 s.dn]) 32)).alloc (.cells (#[.int .i64 0, .int .i64 0, .int .i64 0]) 27)).heap[w.heap.size + 1]? = some (.cells (#[.int .i64 0, .int .i64 0, .int .i64 0]) 27 (0, 0)) := heap_at _ _ _ (by simp)
  have bel : Below w.heap.size w ((w.alloc (.cells (#[.int .i64 s.sh, .int .i64 s.fl, .int .i64 s.cl, .bool s.w.a, .bool s.w.p, .int .i64 s.w.n, .bool s.h.a, .bool s.h.p, .int .i64 s.h.n, .int .i64 s.mn, .int .i64 s.mx, .int .i64 s.mt, .bool s.mr.a, .bool s.mr.p, .int .i64 s.mr.n, .int .i64 s.mb, .bool s.ml.a, .bool s.ml.p, .int .i64 s.ml.n, .int .i64 s.bo, .int .i64 s.pa, .int .i64 s.wh, .int .i64 s.al, .int .i64 s.lh, .int .i64 s.ri, .int .i64 s.dn]) 32)).alloc (.cells (#[.int .i64 0, .int .i64 0, .int .i64 0]) 27)) := ((Below.refl _ _).alloc (Nat.le_refl _) _).alloc (by simp) _
  have CU := fun w => cut_any s (mlN s b) (wdN s b) (mrN s b) w
  have HY : flW s b nr wi = clZ (wdN s b) s.mn s.mx := by unfold flW flW0; rw [if_neg (by rw [hw]; decide)]
  rw [HY]
  clear HY
  generalize clZ (wdN s b) s.mn s.mx = cw at CU ⊢
  have TD := told_any s b ((w.alloc (.cells (#[.int .i64 s.sh, .int .i64 s.fl, .int .i64 s.cl, .bool s.w.a, .bool s.w.p, .int .i64 s.w.n, .bool s.h.a, .bool s.h.p, .int .i64 s.h.n, .int .i64 s.mn, .int .i64 s.mx, .int .i64 s.mt, .bool s.mr.a, .bool s.mr.p, .int .i64 s.mr.n, .int .i64 s.mb, .bool s.ml.a, .bool s.ml.p, .int .i64 s.ml.n, .int .i64 s.bo, .int .i64 s.pa, .int .i64 s.wh, .int .i64 s.al, .int .i64 s.lh, .int .i64 s.ri, .int .i64 s.dn]) 32)).alloc (.cells (#[.int .i64 0, .int .i64 0, .int .i64 0]) 27)) (okA_yes ha).1 (okA_yes ha).2.1
  generalize mlN s b = vl at TD CU ⊢
  generalize wdN s b = vd at TD CU
  generalize mrN s b = vm at TD CU ⊢
  have c3 : Hid (∀ W : World, W.heap[w.heap.size]? = some (.cells (stCells s) 32 (0, 0)) → W.cell? ⟨w.heap.size, 3, none⟩ = some (.bool false)) := fun W h => (lies_cell h 3).trans (by show some (Value.bool s.w.a) = _; rw [hw])
  clear ha hw
  go_enter Tryd.func38, Tryd.ntmps38
  go_wp2_with ((with_reducible show wpList _ _ _ (⟨some 10, Op.load 32 _, _, _, _, _⟩ :: _) _ _); refine wpList_load_row rfl 32 _ rfl (w.heap.size) rfl _ (stCells s) _ _ l0 Tryd.underlying32 rfl (by kernel_rfl) ?_)
  refine TD.mono ?_
  rintro e w1 ⟨rfl, hb⟩
  replace bel := bel.trans (hb.mono bel.size)
  replace l0 := below_lies hb l0 (lies_lt l0)
  replace l1 := below_lies hb l1 (lies_lt l1)
  clear hb
  have z1 : w.heap.size + 1 < w1.heap.size := lies_lt l1
  go_wp2_with (first | ((with_reducible show wpList _ _ _ (⟨none, Op.store 27 (Operand.tmp 9) (Operand.tmp 12), _, _, _, _⟩ :: _) _ _); refine wpList_store_new rfl 27 _ _ rfl rfl (#[.int .i64 vl, .int .i64 vd, .int .i64 vm]) 27 _ _ rfl rfl rfl (by kernel_rfl) rfl (by kernel_rfl) ?_; have l2 := heap_at w1 (.cells (#[.int .i64 vl, .int .i64 vd, .int .i64 vm]) 27) _ rfl; replace l0 := heap_in (o := .cells (#[.int .i64 vl, .int .i64 vd, .int .i64 vm]) 27) l0; replace l1 := heap_in (o := .cells (#[.int .i64 vl, .int .i64 vd, .int .i64 vm]) 27) l1; replace bel := bel.alloc bel.size (.cells (#[.int .i64 vl, .int .i64 vd, .int .i64 vm]) 27); have e3 := c3.out _ l0) | ((with_reducible show wpList _ _ _ (⟨some 25, Op.load 32 _, _, _, _, _⟩ :: _) _ _); refine wpList_load_row rfl 32 _ rfl (w.heap.size) rfl _ (stCells s) _ _ l0 Tryd.underlying32 rfl (by kernel_rfl) ?_) | ((with_reducible show wpList _ _ _ (⟨some 26, Op.load 27 _, _, _, _, _⟩ :: _) _ _); refine wpList_load_row rfl 27 _ rfl (w1.heap.size) rfl _ (#[.int .i64 vl, .int .i64 vd, .int .i64 vm]) _ _ l2 Tryd.underlying27 rfl (by kernel_rfl) ?_))
  refine (CU _).mono ?_
  rintro e w3 ⟨rfl, hb⟩
  replace bel := bel.trans (hb.mono bel.size)
  replace l0 := below_lies hb l0 (lies_lt l0)
  replace l1 := below_lies hb l1 (lies_lt l1)
  replace l2 := below_lies hb l2 (lies_lt l2)
  clear hb
  go_wp2_with ((with_reducible show wpList _ _ _ (⟨none, Op.store 27 (Operand.tmp 8) (Operand.tmp 27), _, _, _, _⟩ :: _) _ _); refine wpList_putA rfl _ _ _ rfl rfl _ 0 3 [.int .i64 vl, .int .i64 cw, .int .i64 vm] _ _ rfl rfl l1 rfl (by kernel_rfl) (by kernel_rfl) (by kernel_rfl) ?_; intro w9 p9 l9 n9; replace l1 := l9.trans (congrArg (fun c => some (Obj.cells c 27 (0, 0))) (show _ = (#[.int .i64 vl, .int .i64 cw, .int .i64 vm] : Array Value) by kernel_rfl)); replace bel := p9.below bel (by omega); clear l9 n9 p9)
  exact bodyPost_ret (v := .agg (#[.int .i64 vl, .int .i64 cw, .int .i64 vm])) (results_cell_row Tryd.results38 _ _ _ _ (#[.int .i64 vl, .int .i64 cw, .int .i64 vm]) _ _ rfl l1 Tryd.underlying27 rfl (by kernel_rfl)) rfl ⟨rfl, bel⟩
theorem float1_any (s : St) (b nr wi : Int) (w : World) (ha : okA s b = true) :
    Calls Tryd.prog 38 #[.agg #[.int .i64 s.sh, .int .i64 s.fl, .int .i64 s.cl, .bool s.w.a, .bool s.w.p, .int .i64 s.w.n, .bool s.h.a, .bool s.h.p, .int .i64 s.h.n, .int .i64 s.mn, .int .i64 s.mx, .int .i64 s.mt, .bool s.mr.a, .bool s.mr.p, .int .i64 s.mr.n, .int .i64 s.mb, .bool s.ml.a, .bool s.ml.p, .int .i64 s.ml.n, .int .i64 s.bo, .int .i64 s.pa, .int .i64 s.wh, .int .i64 s.al, .int .i64 s.lh, .int .i64 s.ri, .int .i64 s.dn], .int .i64 b, .int .i64 nr, .int .i64 wi] w fun e w' => e = .returned (.agg (#[.int .i64 (mlN s b), .int .i64 (flW s b nr wi), .int .i64 (mrN s b)])) ∧ Below w.heap.size w w' := by
  rcases Bool.eq_false_or_eq_true s.w.a with hw | hw
  · exact float_auto s b nr wi w ha hw
  · exact float_told s b nr wi w ha hw
set_option maxRecDepth 100000 in
set_option maxHeartbeats 4000000 in
theorem float_y (s : St) (b nr wi : Int) (w : World) (et : TypeId) (ev : Value) (he : w.cell? ⟨1, 0, none⟩ = some (.iface et ev)) (ha : okA s b = true) (h1 : inB 0 1000000 nr = true) (h2 : inB 0 1000000 wi = true) :
    Calls Tryd.prog 13 #[.agg #[.int .i64 s.sh, .int .i64 s.fl, .int .i64 s.cl, .bool s.w.a, .bool s.w.p, .int .i64 s.w.n, .bool s.h.a, .bool s.h.p, .int .i64 s.h.n, .int .i64 s.mn, .int .i64 s.mx, .int .i64 s.mt, .bool s.mr.a, .bool s.mr.p, .int .i64 s.mr.n, .int .i64 s.mb, .bool s.ml.a, .bool s.ml.p, .int .i64 s.ml.n, .int .i64 s.bo, .int .i64 s.pa, .int .i64 s.wh, .int .i64 s.al, .int .i64 s.lh, .int .i64 s.ri, .int .i64 s.dn], .int .i64 b, .int .i64 nr, .int .i64 wi] w fun e w' => e = .returned (.tuple #[.agg (#[.int .i64 (mlN s b), .int .i64 (flW s b nr wi), .int .i64 (mrN s b)]), .bool true]) ∧ Below w.heap.size w w' := by
  have l0 : ((w.alloc (.cells (#[.int .i64 s.sh, .int .i64 s.fl, .int .i64 s.cl, .bool s.w.a, .bool s.w.p, .int .i64 s.w.n, .bool s.h.a, .bool s.h.p, .int .i64 s.h.n, .int .i64 s.mn, .int .i64 s.mx, .int .i64 s.mt, .bool s.mr.a, .bool s.mr.p, .int .i64 s.mr.n, .int .i64 s.mb, .bool s.ml.a, .bool s.ml.p, .int .i64 s.ml.n, .int .i64 s.bo, .int .i64 s.pa, .int .i64 s.wh, .int .i64 s.al, .int .i64 s.lh, .int .i64 s.ri, .int .i64 s.dn]) 32)).alloc (.cells (#[.int .i64 0, .int .i64 0, .int .i64 0]) 27)).heap[w.heap.size]? = some (.cells (stCells s) 32 (0, 0)) := heap_in (heap_at _ _ _ rfl)
  have l1 : ((w.alloc (.cells (#[.int .i64 s.sh, .int .i64 s.fl, .int .i64 s.cl, .bool s.w.a, .bool s.w.p, .int .i64 s.w.n, .bool s.h.a, .bool s.h.p, .int .i64 s.h.n, .int .i64 s.mn, .int .i64 s.mx, .int .i64 s.mt, .bool s.mr.a, .bool s.mr.p, .int .i64 s.mr.n, .int .i64 s.mb, .bool s.ml.a, .bool s.ml.p, .int .i64 s.ml.n, .int .i64 s.bo, .int .i64 s.pa, .int .i64 s.wh, .int .i64 s.al, .int .i64 s.lh, .int .i64 s.ri, .int .i64 s.dn]) 32)).alloc (.cells (#[.int .i64 0, .int .i64 0, .int .i64 0]) 27)).heap[w.heap.size + 1]? = some (.cells (#[.int .i64 0, .int .i64 0, .int .i64 0]) 27 (0, 0)) := heap_at _ _ _ (by simp)
  have bel : Below w.heap.size w ((w.alloc (.cells (#[.int .i64 s.sh, .int .i64 s.fl, .int .i64 s.cl, .bool s.w.a, .bool s.w.p, .int .i64 s.w.n, .bool s.h.a, .bool s.h.p, .int .i64 s.h.n, .int .i64 s.mn, .int .i64 s.mx, .int .i64 s.mt, .bool s.mr.a, .bool s.mr.p, .int .i64 s.mr.n, .int .i64 s.mb, .bool s.ml.a, .bool s.ml.p, .int .i64 s.ml.n, .int .i64 s.bo, .int .i64 s.pa, .int .i64 s.wh, .int .i64 s.al, .int .i64 s.lh, .int .i64 s.ri, .int .i64 s.dn]) 32)).alloc (.cells (#[.int .i64 0, .int .i64 0, .int .i64 0]) 27)) := ((Below.refl _ _).alloc (Nat.le_refl _) _).alloc (by simp) _
  have lte : 1 < w.heap.size := World.block_lt_of_cell? _ ⟨1, 0, none⟩ he
  have IT := isTold_any s b ((w.alloc (.cells (#[.int .i64 s.sh, .int .i64 s.fl, .int .i64 s.cl, .bool s.w.a, .bool s.w.p, .int .i64 s.w.n, .bool s.h.a, .bool s.h.p, .int .i64 s.h.n, .int .i64 s.mn, .int .i64 s.mx, .int .i64 s.mt, .bool s.mr.a, .bool s.mr.p, .int .i64 s.mr.n, .int .i64 s.mb, .bool s.ml.a, .bool s.ml.p, .int .i64 s.ml.n, .int .i64 s.bo, .int .i64 s.pa, .int .i64 s.wh, .int .i64 s.al, .int .i64 s.lh, .int .i64 s.ri, .int .i64 s.dn]) 32)).alloc (.cells (#[.int .i64 0, .int .i64 0, .int .i64 0]) 27)) et ev ((bel.cell (p := ⟨1, 0, none⟩) lte).trans he)
  clear he
  have E1 := fun w => isExtent_any nr w
  have E2 := fun w => isExtent_any wi w
  have FA := fun w => float1_any s b nr wi w ha
  rw [ha] at IT
  rw [h1] at E1
  rw [h2] at E2
  clear ha h1 h2
  generalize mlN s b = vl at FA ⊢
  generalize flW s b nr wi = vx at FA ⊢
  generalize mrN s b = vm at FA ⊢
  go_enter Tryd.func13, Tryd.ntmps13
  go_wp2_with ((with_reducible show wpList _ _ _ (⟨some 10, Op.load 32 _, _, _, _, _⟩ :: _) _ _); refine wpList_load_row rfl 32 _ rfl (w.heap.size) rfl _ (stCells s) _ _ l0 Tryd.underlying32 rfl (by kernel_rfl) ?_)
  refine IT.mono ?_
  rintro e w1 ⟨rfl, hb⟩
  replace bel := bel.trans (hb.mono bel.size)
  replace l0 := below_lies hb l0 (lies_lt l0)
  replace l1 := below_lies hb l1 (lies_lt l1)
  clear hb
  go_wp2_with (first | (go_at_call 37; refine (E1 _).mono ?_; rintro e w' ⟨rfl, hw⟩; have hw := hw.symm; subst hw) | (go_at_call 37; refine (E2 _).mono ?_; rintro e w' ⟨rfl, hw⟩; have hw := hw.symm; subst hw) | ((with_reducible show wpList _ _ _ (⟨some 25, Op.load 32 _, _, _, _, _⟩ :: _) _ _); refine wpList_load_row rfl 32 _ rfl (w.heap.size) rfl _ (stCells s) _ _ l0 Tryd.underlying32 rfl (by kernel_rfl) ?_) | fail)
  refine (FA _).mono ?_
  rintro e w2 ⟨rfl, hb⟩
  replace bel := bel.trans (hb.mono bel.size)
  replace l0 := below_lies hb l0 (lies_lt l0)
  replace l1 := below_lies hb l1 (lies_lt l1)
  clear hb
  go_wp2_with ((with_reducible show wpList _ _ _ (⟨none, Op.store 27 (Operand.tmp 8) (Operand.tmp 29), _, _, _, _⟩ :: _) _ _); refine wpList_putA rfl _ _ _ rfl rfl _ 0 3 [.int .i64 vl, .int .i64 vx, .int .i64 vm] _ _ rfl rfl l1 rfl (by kernel_rfl) (by kernel_rfl) (by kernel_rfl) ?_; intro w9 p9 l9 n9; replace l1 := l9.trans (congrArg (fun c => some (Obj.cells c 27 (0, 0))) (show _ = (#[.int .i64 vl, .int .i64 vx, .int .i64 vm] : Array Value) by kernel_rfl)); replace bel := p9.below bel (by omega); clear l9 n9 p9)
  exact bodyPost_ret (v := .tuple #[.agg (#[.int .i64 vl, .int .i64 vx, .int .i64 vm]), .bool true]) (results_row_tmp Tryd.results13 _ _ _ _ (#[.int .i64 vl, .int .i64 vx, .int .i64 vm]) _ _ _ rfl l1 Tryd.underlying27 rfl (by kernel_rfl) rfl) rfl ⟨rfl, bel⟩
theorem fl_no {s : St} {b nr wi : Int} (h : okF s b nr wi = false) : Value.tuple #[.agg (#[.int .i64 0, .int .i64 0, .int .i64 0]), .bool false] = flV s b nr wi := by simp [flV, h, acV]
theorem fl_yes {s : St} {b nr wi : Int} (h : okF s b nr wi = true) : Value.tuple #[.agg (#[.int .i64 (mlN s b), .int .i64 (flW s b nr wi), .int .i64 (mrN s b)]), .bool true] = flV s b nr wi := by simp [flV, h, acV]
theorem implFloat_any (s : St) (b nr wi : Int) (w : World) (et : TypeId) (ev : Value) (he : w.cell? ⟨1, 0, none⟩ = some (.iface et ev)) :
    Calls Tryd.prog 13 #[.agg #[.int .i64 s.sh, .int .i64 s.fl, .int .i64 s.cl, .bool s.w.a, .bool s.w.p, .int .i64 s.w.n, .bool s.h.a, .bool s.h.p, .int .i64 s.h.n, .int .i64 s.mn, .int .i64 s.mx, .int .i64 s.mt, .bool s.mr.a, .bool s.mr.p, .int .i64 s.mr.n, .int .i64 s.mb, .bool s.ml.a, .bool s.ml.p, .int .i64 s.ml.n, .int .i64 s.bo, .int .i64 s.pa, .int .i64 s.wh, .int .i64 s.al, .int .i64 s.lh, .int .i64 s.ri, .int .i64 s.dn], .int .i64 b, .int .i64 nr, .int .i64 wi] w fun e w' => e = .returned (flV s b nr wi) ∧ Below w.heap.size w w' := by
  cases ha : okA s b
  · rw [← fl_no (by unfold okF; rw [ha]; rfl)]
    exact float_a s b nr wi w et ev he ha
  cases h1 : inB 0 1000000 nr
  · rw [← fl_no (by unfold okF; rw [ha, h1]; rfl)]
    exact float_n s b nr wi w et ev he ha h1
  cases h2 : inB 0 1000000 wi
  · rw [← fl_no (by unfold okF; rw [ha, h1, h2]; rfl)]
    exact float_w s b nr wi w et ev he ha h1 h2
  have hok : okF s b nr wi = true := by unfold okF; rw [ha, h1, h2]; rfl
  have h := float_y s b nr wi w et ev he ha h1 h2
  rw [fl_yes hok] at h
  exact h
end Go.Proofs.YtijondjiehoafaaDoor
