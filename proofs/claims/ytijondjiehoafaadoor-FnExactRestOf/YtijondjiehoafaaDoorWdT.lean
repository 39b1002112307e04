/-
  The model's RestOf, for every style, every width around and every three numbers.
-/
import Derived.Test.YtijondjiehoafaaDoorWdM
import Derived.Test.YtijondjiehoafaaDoorWdR
namespace Go.Proofs.YtijondjiehoafaaDoor
open Go.ChangeShapes Go.WideShapes Go.ChangeAt Go.RowKit
set_option linter.unusedVariables false

set_option maxRecDepth 100000 in
set_option maxHeartbeats 4000000 in
theorem restS_g (s : St) (b l x r : Int) (w : World) (hg : gdB s b = false) :
    Calls Tryd.prog 14 #[.agg #[.int .i64 s.sh, .int .i64 s.fl, .int .i64 s.cl, .bool s.w.a, .bool s.w.p, .int .i64 s.w.n, .bool s.h.a, .bool s.h.p, .int .i64 s.h.n, .int .i64 s.mn, .int .i64 s.mx, .int .i64 s.mt, .bool s.mr.a, .bool s.mr.p, .int .i64 s.mr.n, .int .i64 s.mb, .bool s.ml.a, .bool s.ml.p, .int .i64 s.ml.n, .int .i64 s.bo, .int .i64 s.pa, .int .i64 s.wh, .int .i64 s.al, .int .i64 s.lh, .int .i64 s.ri, .int .i64 s.dn], .int .i64 b, .agg (#[.int .i64 l, .int .i64 x, .int .i64 r])] w fun e w' => e = .returned (rsV s b l x r) ∧ Below w.heap.size w w' := by
  have l0 : ((w.alloc (.cells (#[.int .i64 s.sh, .int .i64 s.fl, .int .i64 s.cl, .bool s.w.a, .bool s.w.p, .int .i64 s.w.n, .bool s.h.a, .bool s.h.p, .int .i64 s.h.n, .int .i64 s.mn, .int .i64 s.mx, .int .i64 s.mt, .bool s.mr.a, .bool s.mr.p, .int .i64 s.mr.n, .int .i64 s.mb, .bool s.ml.a, .bool s.ml.p, .int .i64 s.ml.n, .int .i64 s.bo, .int .i64 s.pa, .int .i64 s.wh, .int .i64 s.al, .int .i64 s.lh, .int .i64 s.ri, .int .i64 s.dn]) 32)).alloc (.cells (#[.int .i64 l, .int .i64 x, .int .i64 r]) 27)).heap[w.heap.size]? = some (.cells (stCells s) 32 (0, 0)) := heap_in (heap_at _ _ _ rfl)
  have l1 : ((w.alloc (.cells (#[.int .i64 s.sh, .int .i64 s.fl, .int .i64 s.cl, .bool s.w.a, .bool s.w.p, .int .i64 s.w.n, .bool s.h.a, .bool s.h.p, .int .i64 s.h.n, .int .i64 s.mn, .int .i64 s.mx, .int .i64 s.mt, .bool s.mr.a, .bool s.mr.p, .int .i64 s.mr.n, .int .i64 s.mb, .bool s.ml.a, .bool s.ml.p, .int .i64 s.ml.n, .int .i64 s.bo, .int .i64 s.pa, .int .i64 s.wh, .int .i64 s.al, .int .i64 s.lh, .int .i64 s.ri, .int .i64 s.dn]) 32)).alloc (.cells (#[.int .i64 l, .int .i64 x, .int .i64 r]) 27)).heap[w.heap.size + 1]? = some (.cells (#[.int .i64 l, .int .i64 x, .int .i64 r]) 27 (0, 0)) := heap_at _ _ _ (by simp)
  have bel : Below w.heap.size w ((w.alloc (.cells (#[.int .i64 s.sh, .int .i64 s.fl, .int .i64 s.cl, .bool s.w.a, .bool s.w.p, .int .i64 s.w.n, .bool s.h.a, .bool s.h.p, .int .i64 s.h.n, .int .i64 s.mn, .int .i64 s.mx, .int .i64 s.mt, .bool s.mr.a, .bool s.mr.p, .int .i64 s.mr.n, .int .i64 s.mb, .bool s.ml.a, .bool s.ml.p, .int .i64 s.ml.n, .int .i64 s.bo, .int .i64 s.pa, .int .i64 s.wh, .int .i64 s.al, .int .i64 s.lh, .int .i64 s.ri, .int .i64 s.dn]) 32)).alloc (.cells (#[.int .i64 l, .int .i64 x, .int .i64 r]) 27)) := ((Below.refl _ _).alloc (Nat.le_refl _) _).alloc (by simp) _
  have GS := fun w => l6Good_any s b w
  have GL := fun w => specLen_any l w
  have GX := fun w => specLen_any x w
  have GR := fun w => specLen_any r w
  have HK : Hid (okR s b l x r = false) := by show _ = _; unfold okR; rw [show (styleB s && inB 0 1000000 b) = false from hg]; rfl
  rw [hg] at GS
  clear hg GL GX GR
  go_enter Tryd.func14, Tryd.ntmps14
  go_wp2_with ((with_reducible show wpList _ _ _ (⟨some 8, Op.load 32 _, _, _, _, _⟩ :: _) _ _); refine wpList_load_row rfl 32 _ rfl (w.heap.size) rfl _ (stCells s) _ _ l0 Tryd.underlying32 rfl (by kernel_rfl) ?_)
  refine (GS _).mono ?_
  rintro e w1 ⟨rfl, hb⟩
  replace bel := bel.trans (hb.mono bel.size)
  replace l0 := below_lies hb l0 (lies_lt l0)
  replace l1 := below_lies hb l1 (lies_lt l1)
  clear hb
  have d0 : w1.cell? ⟨w.heap.size + 1, 0, none⟩ = some (.int .i64 l) := (lies_cell l1 0).trans rfl
  have d1 : w1.cell? ⟨w.heap.size + 1, 1, none⟩ = some (.int .i64 x) := (lies_cell l1 1).trans rfl
  have d2 : w1.cell? ⟨w.heap.size + 1, 2, none⟩ = some (.int .i64 r) := (lies_cell l1 2).trans rfl
  go_wp2
  go_ret2
  exact ⟨congrArg Ending.returned (rs_no HK.out), bel⟩
set_option maxRecDepth 100000 in
set_option maxHeartbeats 4000000 in
theorem restS_l (s : St) (b l x r : Int) (w : World) (hg : gdB s b = true) (h2 : inB (-1000000) 1000000 l = false) :
    Calls Tryd.prog 14 #[.agg #[.int .i64 s.sh, .int .i64 s.fl, .int .i64 s.cl, .bool s.w.a, .bool s.w.p, .int .i64 s.w.n, .bool s.h.a, .bool s.h.p, .int .i64 s.h.n, .int .i64 s.mn, .int .i64 s.mx, .int .i64 s.mt, .bool s.mr.a, .bool s.mr.p, .int .i64 s.mr.n, .int .i64 s.mb, .bool s.ml.a, .bool s.ml.p, .int .i64 s.ml.n, .int .i64 s.bo, .int .i64 s.pa, .int .i64 s.wh, .int .i64 s.al, .int .i64 s.lh, .int .i64 s.ri, .int .i64 s.dn], .int .i64 b, .agg (#[.int .i64 l, .int .i64 x, .int .i64 r])] w fun e w' => e = .returned (rsV s b l x r) ∧ Below w.heap.size w w' := by
  have l0 : ((w.alloc (.cells (#[.int .i64 s.sh, .int .i64 s.fl, .int .i64 s.cl, .bool s.w.a, .bool s.w.p, .int .i64 s.w.n, .bool s.h.a, .bool s.h.p, .int .i64 s.h.n, .int .i64 s.mn, .int .i64 s.mx, .int .i64 s.mt, .bool s.mr.a, .bool s.mr.p, .int .i64 s.mr.n, .int .i64 s.mb, .bool s.ml.a, .bool s.ml.p, .int .i64 s.ml.n, .int .i64 s.bo, .int .i64 s.pa, .int .i64 s.wh, .int .i64 s.al, .int .i64 s.lh, .int .i64 s.ri, .int .i64 s.dn]) 32)).alloc (.cells (#[.int .i64 l, .int .i64 x, .int .i64 r]) 27)).heap[w.heap.size]? = some (.cells (stCells s) 32 (0, 0)) := heap_in (heap_at _ _ _ rfl)
  have l1 : ((w.alloc (.cells (#[.int .i64 s.sh, .int .i64 s.fl, .int .i64 s.cl, .bool s.w.a, .bool s.w.p, .int .i64 s.w.n, .bool s.h.a, .bool s.h.p, .int .i64 s.h.n, .int .i64 s.mn, .int .i64 s.mx, .int .i64 s.mt, .bool s.mr.a, .bool s.mr.p, .int .i64 s.mr.n, .int .i64 s.mb, .bool s.ml.a, .bool s.ml.p, .int .i64 s.ml.n, .int .i64 s.bo, .int .i64 s.pa, .int .i64 s.wh, .int .i64 s.al, .int .i64 s.lh, .int .i64 s.ri, .int .i64 s.dn]) 32)).alloc (.cells (#[.int .i64 l, .int .i64 x, .int .i64 r]) 27)).heap[w.heap.size + 1]? = some (.cells (#[.int .i64 l, .int .i64 x, .int .i64 r]) 27 (0, 0)) := heap_at _ _ _ (by simp)
  have bel : Below w.heap.size w ((w.alloc (.cells (#[.int .i64 s.sh, .int .i64 s.fl, .int .i64 s.cl, .bool s.w.a, .bool s.w.p, .int .i64 s.w.n, .bool s.h.a, .bool s.h.p, .int .i64 s.h.n, .int .i64 s.mn, .int .i64 s.mx, .int .i64 s.mt, .bool s.mr.a, .bool s.mr.p, .int .i64 s.mr.n, .int .i64 s.mb, .bool s.ml.a, .bool s.ml.p, .int .i64 s.ml.n, .int .i64 s.bo, .int .i64 s.pa, .int .i64 s.wh, .int .i64 s.al, .int .i64 s.lh, .int .i64 s.ri, .int .i64 s.dn]) 32)).alloc (.cells (#[.int .i64 l, .int .i64 x, .int .i64 r]) 27)) := ((Below.refl _ _).alloc (Nat.le_refl _) _).alloc (by simp) _
  have GS := fun w => l6Good_any s b w
  have GL := fun w => specLen_any l w
  have GX := fun w => specLen_any x w
  have GR := fun w => specLen_any r w
  have HK : Hid (okR s b l x r = false) := by show _ = _; unfold okR; rw [h2]; simp
  rw [hg] at GS
  rw [h2] at GL
  clear hg h2
  go_enter Tryd.func14, Tryd.ntmps14
  go_wp2_with ((with_reducible show wpList _ _ _ (⟨some 8, Op.load 32 _, _, _, _, _⟩ :: _) _ _); refine wpList_load_row rfl 32 _ rfl (w.heap.size) rfl _ (stCells s) _ _ l0 Tryd.underlying32 rfl (by kernel_rfl) ?_)
  refine (GS _).mono ?_
  rintro e w1 ⟨rfl, hb⟩
  replace bel := bel.trans (hb.mono bel.size)
  replace l0 := below_lies hb l0 (lies_lt l0)
  replace l1 := below_lies hb l1 (lies_lt l1)
  clear hb
  have d0 : w1.cell? ⟨w.heap.size + 1, 0, none⟩ = some (.int .i64 l) := (lies_cell l1 0).trans rfl
  have d1 : w1.cell? ⟨w.heap.size + 1, 1, none⟩ = some (.int .i64 x) := (lies_cell l1 1).trans rfl
  have d2 : w1.cell? ⟨w.heap.size + 1, 2, none⟩ = some (.int .i64 r) := (lies_cell l1 2).trans rfl
  go_wp2_with fail
  refine (GL _).mono ?_
  rintro e w' ⟨rfl, hw9⟩
  have hw9 := hw9.symm
  subst hw9
  go_wp2
  go_ret2
  exact ⟨congrArg Ending.returned (rs_no HK.out), bel⟩
set_option maxRecDepth 100000 in
set_option maxHeartbeats 4000000 in
theorem restS_x (s : St) (b l x r : Int) (w : World) (hg : gdB s b = true) (h2 : inB (-1000000) 1000000 l = true) (h3 : inB (-1000000) 1000000 x = false) :
    Calls Tryd.prog 14 #[.agg #[.int .i64 s.sh, .int .i64 s.fl, .int .i64 s.cl, .bool s.w.a, .bool s.w.p, .int .i64 s.w.n, .bool s.h.a, .bool s.h.p, .int .i64 s.h.n, .int .i64 s.mn, .int .i64 s.mx, .int .i64 s.mt, .bool s.mr.a, .bool s.mr.p, .int .i64 s.mr.n, .int .i64 s.mb, .bool s.ml.a, .bool s.ml.p, .int .i64 s.ml.n, .int .i64 s.bo, .int .i64 s.pa, .int .i64 s.wh, .int .i64 s.al, .int .i64 s.lh, .int .i64 s.ri, .int .i64 s.dn], .int .i64 b, .agg (#[.int .i64 l, .int .i64 x, .int .i64 r])] w fun e w' => e = .returned (rsV s b l x r) ∧ Below w.heap.size w w' := by
  have l0 : ((w.alloc (.cells (#[.int .i64 s.sh, .int .i64 s.fl, .int .i64 s.cl, .bool s.w.a, .bool s.w.p, .int .i64 s.w.n, .bool s.h.a, .bool s.h.p, .int .i64 s.h.n, .int .i64 s.mn, .int .i64 s.mx, .int .i64 s.mt, .bool s.mr.a, .bool s.mr.p, .int .i64 s.mr.n, .int .i64 s.mb, .bool s.ml.a, .bool s.ml.p, .int .i64 s.ml.n, .int .i64 s.bo, .int .i64 s.pa, .int .i64 s.wh, .int .i64 s.al, .int .i64 s.lh, .int .i64 s.ri, .int .i64 s.dn]) 32)).alloc (.cells (#[.int .i64 l, .int .i64 x, .int .i64 r]) 27)).heap[w.heap.size]? = some (.cells (stCells s) 32 (0, 0)) := heap_in (heap_at _ _ _ rfl)
  have l1 : ((w.alloc (.cells (#[.int .i64 s.sh, .int .i64 s.fl, .int .i64 s.cl, .bool s.w.a, .bool s.w.p, .int .i64 s.w.n, .bool s.h.a, .bool s.h.p, .int .i64 s.h.n, .int .i64 s.mn, .int .i64 s.mx, .int .i64 s.mt, .bool s.mr.a, .bool s.mr.p, .int .i64 s.mr.n, .int .i64 s.mb, .bool s.ml.a, .bool s.ml.p, .int .i64 s.ml.n, .int .i64 s.bo, .int .i64 s.pa, .int .i64 s.wh, .int .i64 s.al, .int .i64 s.lh, .int .i64 s.ri, .int .i64 s.dn]) 32)).alloc (.cells (#[.int .i64 l, .int .i64 x, .int .i64 r]) 27)).heap[w.heap.size + 1]? = some (.cells (#[.int .i64 l, .int .i64 x, .int .i64 r]) 27 (0, 0)) := heap_at _ _ _ (by simp)
  have bel : Below w.heap.size w ((w.alloc (.cells (#[.int .i64 s.sh, .int .i64 s.fl, .int .i64 s.cl, .bool s.w.a, .bool s.w.p, .int .i64 s.w.n, .bool s.h.a, .bool s.h.p, .int .i64 s.h.n, .int .i64 s.mn, .int .i64 s.mx, .int .i64 s.mt, .bool s.mr.a, .bool s.mr.p, .int .i64 s.mr.n, .int .i64 s.mb, .bool s.ml.a, .bool s.ml.p, .int .i64 s.ml.n, .int .i64 s.bo, .int .i64 s.pa, .int .i64 s.wh, .int .i64 s.al, .int .i64 s.lh, .int .i64 s.ri, .int .i64 s.dn]) 32)).alloc (.cells (#[.int .i64 l, .int .i64 x, .int .i64 r]) 27)) := ((Below.refl _ _).alloc (Nat.le_refl _) _).alloc (by simp) _
  have GS := fun w => l6Good_any s b w
  have GL := fun w => specLen_any l w
  have GX := fun w => specLen_any x w
  have GR := fun w => specLen_any r w
  have HK : Hid (okR s b l x r = false) := by show _ = _; unfold okR; rw [h3]; simp
  rw [hg] at GS
  rw [h2] at GL
  rw [h3] at GX
  clear hg h2 h3
  go_enter Tryd.func14, Tryd.ntmps14
  go_wp2_with ((with_reducible show wpList _ _ _ (⟨some 8, Op.load 32 _, _, _, _, _⟩ :: _) _ _); refine wpList_load_row rfl 32 _ rfl (w.heap.size) rfl _ (stCells s) _ _ l0 Tryd.underlying32 rfl (by kernel_rfl) ?_)
  refine (GS _).mono ?_
  rintro e w1 ⟨rfl, hb⟩
  replace bel := bel.trans (hb.mono bel.size)
  replace l0 := below_lies hb l0 (lies_lt l0)
  replace l1 := below_lies hb l1 (lies_lt l1)
  clear hb
  have d0 : w1.cell? ⟨w.heap.size + 1, 0, none⟩ = some (.int .i64 l) := (lies_cell l1 0).trans rfl
  have d1 : w1.cell? ⟨w.heap.size + 1, 1, none⟩ = some (.int .i64 x) := (lies_cell l1 1).trans rfl
  have d2 : w1.cell? ⟨w.heap.size + 1, 2, none⟩ = some (.int .i64 r) := (lies_cell l1 2).trans rfl
  go_wp2_with fail
  refine (GL _).mono ?_
  rintro e w' ⟨rfl, hw9⟩
  have hw9 := hw9.symm
  subst hw9
  go_wp2_with fail
  refine (GX _).mono ?_
  rintro e w' ⟨rfl, hw9⟩
  have hw9 := hw9.symm
  subst hw9
  go_wp2
  go_ret2
  exact ⟨congrArg Ending.returned (rs_no HK.out), bel⟩
set_option maxRecDepth 100000 in
set_option maxHeartbeats 4000000 in
theorem restS_r (s : St) (b l x r : Int) (w : World) (hg : gdB s b = true) (h2 : inB (-1000000) 1000000 l = true) (h3 : inB (-1000000) 1000000 x = true) (h4 : inB (-1000000) 1000000 r = false) :
    Calls Tryd.prog 14 #[.agg #[.int .i64 s.sh, .int .i64 s.fl, .int .i64 s.cl, .bool s.w.a, .bool s.w.p, .int .i64 s.w.n, .bool s.h.a, .bool s.h.p, .int .i64 s.h.n, .int .i64 s.mn, .int .i64 s.mx, .int .i64 s.mt, .bool s.mr.a, .bool s.mr.p, .int .i64 s.mr.n, .int .i64 s.mb, .bool s.ml.a, .bool s.ml.p, .int .i64 s.ml.n, .int .i64 s.bo, .int .i64 s.pa, .int .i64 s.wh, .int .i64 s.al, .int .i64 s.lh, .int .i64 s.ri, .int .i64 s.dn], .int .i64 b, .agg (#[.int .i64 l, .int .i64 x, .int .i64 r])] w fun e w' => e = .returned (rsV s b l x r) ∧ Below w.heap.size w w' := by
  have l0 : ((w.alloc (.cells (#[.int .i64 s.sh, .int .i64 s.fl, .int .i64 s.cl, .bool s.w.a, .bool s.w.p, .int .i64 s.w.n, .bool s.h.a, .bool s.h.p, .int .i64 s.h.n, .int .i64 s.mn, .int .i64 s.mx, .int .i64 s.mt, .bool s.mr.a, .bool s.mr.p, .int .i64 s.mr.n, .int .i64 s.mb, .bool s.ml.a, .bool s.ml.p, .int .i64 s.ml.n, .int .i64 s.bo, .int .i64 s.pa, .int .i64 s.wh, .int .i64 s.al, .int .i64 s.lh, .int .i64 s.ri, .int .i64 s.dn]) 32)).alloc (.cells (#[.int .i64 l, .int .i64 x, .int .i64 r]) 27)).heap[w.heap.size]? = some (.cells (stCells s) 32 (0, 0)) := heap_in (heap_at _ _ _ rfl)
  have l1 : ((w.alloc (.cells (#[.int .i64 s.sh, .int .i64 s.fl, .int .i64 s.cl, .bool s.w.a, .bool s.w.p, .int .i64 s.w.n, .bool s.h.a, .bool s.h.p, .int .i64 s.h.n, .int .i64 s.mn, .int .i64 s.mx, .int .i64 s.mt, .bool s.mr.a, .bool s.mr.p, .int .i64 s.mr.n, .int .i64 s.mb, .bool s.ml.a, .bool s.ml.p, .int .i64 s.ml.n, .int .i64 s.bo, .int .i64 s.pa, .int .i64 s.wh, .int .i64 s.al, .int .i64 s.lh, .int .i64 s.ri, .int .i64 s.dn]) 32)).alloc (.cells (#[.int .i64 l, .int .i64 x, .int .i64 r]) 27)).heap[w.heap.size + 1]? = some (.cells (#[.int .i64 l, .int .i64 x, .int .i64 r]) 27 (0, 0)) := heap_at _ _ _ (by simp)
  have bel : Below w.heap.size w ((w.alloc (.cells (#[.int .i64 s.sh, .int .i64 s.fl, .int .i64 s.cl, .bool s.w.a, .bool s.w.p, .int .i64 s.w.n, .bool s.h.a, .bool s.h.p, .int .i64 s.h.n, .int .i64 s.mn, .int .i64 s.mx, .int .i64 s.mt, .bool s.mr.a, .bool s.mr.p, .int .i64 s.mr.n, .int .i64 s.mb, .bool s.ml.a, .bool s.ml.p, .int .i64 s.ml.n, .int .i64 s.bo, .int .i64 s.pa, .int .i64 s.wh, .int .i64 s.al, .int .i64 s.lh, .int .i64 s.ri, .int .i64 s.dn]) 32)).alloc (.cells (#[.int .i64 l, .int .i64 x, .int .i64 r]) 27)) := ((Below.refl _ _).alloc (Nat.le_refl _) _).alloc (by simp) _
  have GS := fun w => l6Good_any s b w
  have GL := fun w => specLen_any l w
  have GX := fun w => specLen_any x w
  have GR := fun w => specLen_any r w
  have HK : Hid (okR s b l x r = false) := by show _ = _; unfold okR; rw [h4]; simp
  rw [hg] at GS
  rw [h2] at GL
  rw [h3] at GX
  rw [h4] at GR
  clear hg h2 h3 h4
  go_enter Tryd.func14, Tryd.ntmps14
  go_wp2_with ((with_reducible show wpList _ _ _ (⟨some 8, Op.load 32 _, _, _, _, _⟩ :: _) _ _); refine wpList_load_row rfl 32 _ rfl (w.heap.size) rfl _ (stCells s) _ _ l0 Tryd.underlying32 rfl (by kernel_rfl) ?_)
  refine (GS _).mono ?_
  rintro e w1 ⟨rfl, hb⟩
  replace bel := bel.trans (hb.mono bel.size)
  replace l0 := below_lies hb l0 (lies_lt l0)
  replace l1 := below_lies hb l1 (lies_lt l1)
  clear hb
  have d0 : w1.cell? ⟨w.heap.size + 1, 0, none⟩ = some (.int .i64 l) := (lies_cell l1 0).trans rfl
  have d1 : w1.cell? ⟨w.heap.size + 1, 1, none⟩ = some (.int .i64 x) := (lies_cell l1 1).trans rfl
  have d2 : w1.cell? ⟨w.heap.size + 1, 2, none⟩ = some (.int .i64 r) := (lies_cell l1 2).trans rfl
  go_wp2_with fail
  refine (GL _).mono ?_
  rintro e w' ⟨rfl, hw9⟩
  have hw9 := hw9.symm
  subst hw9
  go_wp2_with fail
  refine (GX _).mono ?_
  rintro e w' ⟨rfl, hw9⟩
  have hw9 := hw9.symm
  subst hw9
  go_wp2_with fail
  refine (GR _).mono ?_
  rintro e w' ⟨rfl, hw9⟩
  have hw9 := hw9.symm
  subst hw9
  go_wp2
  go_ret2
  exact ⟨congrArg Ending.returned (rs_no HK.out), bel⟩
set_option maxRecDepth 100000 in
set_option maxHeartbeats 4000000 in
theorem restS_y (s : St) (b l x r : Int) (w : World) (hg : gdB s b = true) (h2 : inB (-1000000) 1000000 l = true) (h3 : inB (-1000000) 1000000 x = true) (h4 : inB (-1000000) 1000000 r = true) :
    Calls Tryd.prog 14 #[.agg #[.int .i64 s.sh, .int .i64 s.fl, .int .i64 s.cl, .bool s.w.a, .bool s.w.p, .int .i64 s.w.n, .bool s.h.a, .bool s.h.p, .int .i64 s.h.n, .int .i64 s.mn, .int .i64 s.mx, .int .i64 s.mt, .bool s.mr.a, .bool s.mr.p, .int .i64 s.mr.n, .int .i64 s.mb, .bool s.ml.a, .bool s.ml.p, .int .i64 s.ml.n, .int .i64 s.bo, .int .i64 s.pa, .int .i64 s.wh, .int .i64 s.al, .int .i64 s.lh, .int .i64 s.ri, .int .i64 s.dn], .int .i64 b, .agg (#[.int .i64 l, .int .i64 x, .int .i64 r])] w fun e w' => e = .returned (rsV s b l x r) ∧ Below w.heap.size w w' := by
  have l0 : ((w.alloc (.cells (#[.int .i64 s.sh, .int .i64 s.fl, .int .i64 s.cl, .bool s.w.a, .bool s.w.p, .int .i64 s.w.n, .bool s.h.a, .bool s.h.p, .int .i64 s.h.n, .int .i64 s.mn, .int .i64 s.mx, .int .i64 s.mt, .bool s.mr.a, .bool s.mr.p, .int .i64 s.mr.n, .int .i64 s.mb, .bool s.ml.a, .bool s.ml.p, .int .i64 s.ml.n, .int .i64 s.bo, .int .i64 s.pa, .int .i64 s.wh, .int .i64 s.al, .int .i64 s.lh, .int .i64 s.ri, .int .i64 s.dn]) 32)).alloc (.cells (#[.int .i64 l, .int .i64 x, .int .i64 r]) 27)).heap[w.heap.size]? = some (.cells (stCells s) 32 (0, 0)) := heap_in (heap_at _ _ _ rfl)
  have l1 : ((w.alloc (.cells (#[.int .i64 s.sh, .int .i64 s.fl, .int .i64 s.cl, .bool s.w.a, .bool s.w.p, .int .i64 s.w.n, .bool s.h.a, .bool s.h.p, .int .i64 s.h.n, .int .i64 s.mn, .int .i64 s.mx, .int .i64 s.mt, .bool s.mr.a, .bool s.mr.p, .int .i64 s.mr.n, .int .i64 s.mb, .bool s.ml.a, .bool s.ml.p, .int .i64 s.ml.n, .int .i64 s.bo, .int .i64 s.pa, .int .i64 s.wh, .int .i64 s.al, .int .i64 s.lh, .int .i64 s.ri, .int .i64 s.dn]) 32)).alloc (.cells (#[.int .i64 l, .int .i64 x, .int .i64 r]) 27)).heap[w.heap.size + 1]? = some (.cells (#[.int .i64 l, .int .i64 x, .int .i64 r]) 27 (0, 0)) := heap_at _ _ _ (by simp)
  have bel : Below w.heap.size w ((w.alloc (.cells (#[.int .i64 s.sh, .int .i64 s.fl, .int .i64 s.cl, .bool s.w.a, .bool s.w.p, .int .i64 s.w.n, .bool s.h.a, .bool s.h.p, .int .i64 s.h.n, .int .i64 s.mn, .int .i64 s.mx, .int .i64 s.mt, .bool s.mr.a, .bool s.mr.p, .int .i64 s.mr.n, .int .i64 s.mb, .bool s.ml.a, .bool s.ml.p, .int .i64 s.ml.n, .int .i64 s.bo, .int .i64 s.pa, .int .i64 s.wh, .int .i64 s.al, .int .i64 s.lh, .int .i64 s.ri, .int .i64 s.dn]) 32)).alloc (.cells (#[.int .i64 l, .int .i64 x, .int .i64 r]) 27)) := ((Below.refl _ _).alloc (Nat.le_refl _) _).alloc (by simp) _
  have GS := fun w => l6Good_any s b w
  have GL := fun w => specLen_any l w
  have GX := fun w => specLen_any x w
  have GR := fun w => specLen_any r w
  have hg' := hg
  unfold gdB at hg'
  rw [Bool.and_eq_true] at hg'
  obtain ⟨hs, h1⟩ := hg'
  obtain ⟨hb1, hb2⟩ := inB_yes h1
  obtain ⟨hl1, hl2⟩ := inB_yes h2
  obtain ⟨hx1, hx2'⟩ := inB_yes h3
  obtain ⟨hr1, hr2⟩ := inB_yes h4
  have ED := fun w => edge_any s w hs
  obtain ⟨e1, e2⟩ := eg_bd hs
  have HK : Hid (okR s b l x r = true) := by show _ = _; unfold okR; rw [hs, h1, h2, h3, h4]; rfl
  obtain ⟨eg0, heg⟩ : ∃ e, e = eg s := ⟨_, rfl⟩
  rw [← heg] at ED e1 e2
  have HG : Hid (eg0 = eg s) := heg
  rw [hg] at GS
  rw [h2] at GL
  rw [h3] at GX
  rw [h4] at GR
  clear hg hs h1 h2 h3 h4 heg
  go_enter Tryd.func14, Tryd.ntmps14
  go_wp2_with ((with_reducible show wpList _ _ _ (⟨some 8, Op.load 32 _, _, _, _, _⟩ :: _) _ _); refine wpList_load_row rfl 32 _ rfl (w.heap.size) rfl _ (stCells s) _ _ l0 Tryd.underlying32 rfl (by kernel_rfl) ?_)
  refine (GS _).mono ?_
  rintro e w1 ⟨rfl, hb⟩
  replace bel := bel.trans (hb.mono bel.size)
  replace l0 := below_lies hb l0 (lies_lt l0)
  replace l1 := below_lies hb l1 (lies_lt l1)
  clear hb
  have d0 : w1.cell? ⟨w.heap.size + 1, 0, none⟩ = some (.int .i64 l) := (lies_cell l1 0).trans rfl
  have d1 : w1.cell? ⟨w.heap.size + 1, 1, none⟩ = some (.int .i64 x) := (lies_cell l1 1).trans rfl
  have d2 : w1.cell? ⟨w.heap.size + 1, 2, none⟩ = some (.int .i64 r) := (lies_cell l1 2).trans rfl
  go_wp2_with fail
  refine (GL _).mono ?_
  rintro e w' ⟨rfl, hw9⟩
  have hw9 := hw9.symm
  subst hw9
  go_wp2_with fail
  refine (GX _).mono ?_
  rintro e w' ⟨rfl, hw9⟩
  have hw9 := hw9.symm
  subst hw9
  go_wp2_with fail
  refine (GR _).mono ?_
  rintro e w' ⟨rfl, hw9⟩
  have hw9 := hw9.symm
  subst hw9
  go_wp2
  have hS : Sx s w.heap.size l x r w1 := ⟨l0, l1⟩
  clear d0 d1 d2 GL GX GR GS
  refine wp_region_held_drew (S := Sx s w.heap.size l x r) (by kernel_rfl) hS (fun hHeld => ?_)
  refine wpAnyH_take (i := 0) (oi := { dst := some 30, op := Op.move (Operand.tmp 1), type := 3, pos := "l6_width.go:94", after := #[], guard := none }) (v := .int .i64 b) rfl (by kernel_rfl) (by kernel_rfl) (by kernel_rfl) (fun _ _ _ h => h) (Or.inl ⟨by rfl, by intro w hSw; go_simp⟩) hHeld ?_
  simp only [Act.put, List.setIfInBounds_toArray, List.set_cons_zero, List.set_cons_succ]
  refine wpAnyH_take (i := 1) (oi := { dst := some 31, op := Op.load 32 (Operand.tmp 3), type := 32, pos := "l6_width.go:94", after := #[], guard := none }) (v := .agg ((stCells s).toList).toArray) rfl (by kernel_rfl) (by kernel_rfl) (by kernel_rfl) (fun _ _ _ h => h) (yieldsIf_load_mid (by rfl) 32 _ rfl (w.heap.size) 0 rfl ((stCells s).toList) _ (fun wz hw => range_lies hw.1) Tryd.underlying32 rfl (by kernel_rfl)) hHeld ?_
  simp only [Act.put, List.setIfInBounds_toArray, List.set_cons_zero, List.set_cons_succ]
  refine wpAnyH_take (i := 4) (oi := { dst := some 34, op := Op.fieldAddr 27 (Operand.tmp 5) 0, type := 0, pos := "l6_width.go:94", after := #[], guard := none }) (v := .pointer (some ⟨w.heap.size + 1, 0, none⟩)) rfl (by kernel_rfl) (by kernel_rfl) (by kernel_rfl) (fun _ _ _ h => h) (Or.inl ⟨by rfl, by intro w hSw; go_simp⟩) hHeld ?_
  simp only [Act.put, List.setIfInBounds_toArray, List.set_cons_zero, List.set_cons_succ]
  refine wpAnyH_take (i := 5) (oi := { dst := some 35, op := Op.load 3 (Operand.tmp 34), type := 3, pos := "l6_width.go:94", after := #[⟨4, Ground.data⟩], guard := none }) (v := .int .i64 l) rfl (by kernel_rfl) (by kernel_rfl) (by kernel_rfl) (fun _ _ _ h => h) (Or.inl ⟨by rfl, by intro wz hSw; have hq : wz.cell? ⟨w.heap.size + 1, 0, none⟩ = some (.int .i64 l) := (lies_cell hSw.2 0).trans rfl; clear hSw; go_simp⟩) hHeld ?_
  simp only [Act.put, List.setIfInBounds_toArray, List.set_cons_zero, List.set_cons_succ]
  refine wpAnyH_take (i := 7) (oi := { dst := some 37, op := Op.fieldAddr 27 (Operand.tmp 5) 1, type := 0, pos := "l6_width.go:94", after := #[], guard := none }) (v := .pointer (some ⟨w.heap.size + 1, 1, none⟩)) rfl (by kernel_rfl) (by kernel_rfl) (by kernel_rfl) (fun _ _ _ h => h) (Or.inl ⟨by rfl, by intro w hSw; go_simp⟩) hHeld ?_
  simp only [Act.put, List.setIfInBounds_toArray, List.set_cons_zero, List.set_cons_succ]
  refine wpAnyH_take (i := 8) (oi := { dst := some 38, op := Op.load 3 (Operand.tmp 37), type := 3, pos := "l6_width.go:94", after := #[⟨7, Ground.data⟩], guard := none }) (v := .int .i64 x) rfl (by kernel_rfl) (by kernel_rfl) (by kernel_rfl) (fun _ _ _ h => h) (Or.inl ⟨by rfl, by intro wz hSw; have hq : wz.cell? ⟨w.heap.size + 1, 1, none⟩ = some (.int .i64 x) := (lies_cell hSw.2 1).trans rfl; clear hSw; go_simp⟩) hHeld ?_
  simp only [Act.put, List.setIfInBounds_toArray, List.set_cons_zero, List.set_cons_succ]
  refine wpAnyH_take (i := 10) (oi := { dst := some 40, op := Op.fieldAddr 27 (Operand.tmp 5) 2, type := 0, pos := "l6_width.go:94", after := #[], guard := none }) (v := .pointer (some ⟨w.heap.size + 1, 2, none⟩)) rfl (by kernel_rfl) (by kernel_rfl) (by kernel_rfl) (fun _ _ _ h => h) (Or.inl ⟨by rfl, by intro w hSw; go_simp⟩) hHeld ?_
  simp only [Act.put, List.setIfInBounds_toArray, List.set_cons_zero, List.set_cons_succ]
  refine wpAnyH_take (i := 11) (oi := { dst := some 41, op := Op.load 3 (Operand.tmp 40), type := 3, pos := "l6_width.go:94", after := #[⟨10, Ground.data⟩], guard := none }) (v := .int .i64 r) rfl (by kernel_rfl) (by kernel_rfl) (by kernel_rfl) (fun _ _ _ h => h) (Or.inl ⟨by rfl, by intro wz hSw; have hq : wz.cell? ⟨w.heap.size + 1, 2, none⟩ = some (.int .i64 r) := (lies_cell hSw.2 2).trans rfl; clear hSw; go_simp⟩) hHeld ?_
  simp only [Act.put, List.setIfInBounds_toArray, List.set_cons_zero, List.set_cons_succ]
  refine wpAnyH_ready (rs := [2]) (by kernel_rfl) (by simp) ?_
  refine AllReadyH.cons (o := { dst := some 32, op := Op.call { callee := Callee.value (Operand.func 39), args := #[Operand.tmp 31], argTypes := #[32] }, type := 3, pos := "l6_width.go:94", after := #[⟨1, Ground.data⟩], guard := none }) rfl (fun K hK => ?_) AllReadyH.nil
  go_simp
  refine (ED _).mono ?_
  rintro e w2 ⟨rfl, hb⟩
  have hx2 : Sx s w.heap.size l x r w2 := ⟨below_lies hb hHeld.1 (lies_lt hHeld.1), below_lies hb hHeld.2 (lies_lt hHeld.2)⟩
  go_wp2_with fail
  refine hK.out _ _ hx2 (fun hHeld2 => ?_)
  clear hK K
  try simp only [Act.put, List.setIfInBounds_toArray, List.set_cons_zero, List.set_cons_succ]
  refine wpAnyH_take (i := 3) (oi := { dst := some 33, op := Op.binOp BinOp.sub 3 (Operand.tmp 30) (Operand.tmp 32) 3, type := 3, pos := "l6_width.go:94", after := #[⟨0, Ground.data⟩, ⟨2, Ground.data⟩], guard := none }) (v := .int .i64 (b - eg0)) rfl (by kernel_rfl) (by kernel_rfl) (by kernel_rfl) (fun _ _ _ h => h) (Or.inl ⟨by rfl, by intro wz hSw; go_simp; exact wrap6 (by omega) (by omega)⟩) hHeld2 ?_
  simp only [Act.put, List.setIfInBounds_toArray, List.set_cons_zero, List.set_cons_succ]
  refine wpAnyH_take (i := 6) (oi := { dst := some 36, op := Op.binOp BinOp.sub 3 (Operand.tmp 33) (Operand.tmp 35) 3, type := 3, pos := "l6_width.go:94", after := #[⟨3, Ground.data⟩, ⟨5, Ground.data⟩], guard := none }) (v := .int .i64 ((b - eg0) - l)) rfl (by kernel_rfl) (by kernel_rfl) (by kernel_rfl) (fun _ _ _ h => h) (Or.inl ⟨by rfl, by intro wz hSw; go_simp; exact wrap6 (by omega) (by omega)⟩) hHeld2 ?_
  simp only [Act.put, List.setIfInBounds_toArray, List.set_cons_zero, List.set_cons_succ]
  refine wpAnyH_take (i := 9) (oi := { dst := some 39, op := Op.binOp BinOp.sub 3 (Operand.tmp 36) (Operand.tmp 38) 3, type := 3, pos := "l6_width.go:94", after := #[⟨6, Ground.data⟩, ⟨8, Ground.data⟩], guard := none }) (v := .int .i64 (((b - eg0) - l) - x)) rfl (by kernel_rfl) (by kernel_rfl) (by kernel_rfl) (fun _ _ _ h => h) (Or.inl ⟨by rfl, by intro wz hSw; go_simp; exact wrap6 (by omega) (by omega)⟩) hHeld2 ?_
  simp only [Act.put, List.setIfInBounds_toArray, List.set_cons_zero, List.set_cons_succ]
  refine wpAnyH_take (i := 12) (oi := { dst := some 42, op := Op.binOp BinOp.sub 3 (Operand.tmp 39) (Operand.tmp 41) 3, type := 3, pos := "l6_width.go:94", after := #[⟨9, Ground.data⟩, ⟨11, Ground.data⟩], guard := none }) (v := .int .i64 ((((b - eg0) - l) - x) - r)) rfl (by kernel_rfl) (by kernel_rfl) (by kernel_rfl) (fun _ _ _ h => h) (Or.inl ⟨by rfl, by intro wz hSw; go_simp; exact wrap6 (by omega) (by omega)⟩) hHeld2 ?_
  simp only [Act.put, List.setIfInBounds_toArray, List.set_cons_zero, List.set_cons_succ]
  refine wpAnyH_take (i := 13) (oi := { dst := some 6, op := Op.assign (Operand.tmp 42), type := 3, pos := "l6_width.go:94", after := #[⟨12, Ground.data⟩, ⟨2, Ground.chain⟩, ⟨0, Ground.phase⟩, ⟨1, Ground.phase⟩, ⟨2, Ground.phase⟩, ⟨3, Ground.phase⟩, ⟨4, Ground.phase⟩, ⟨5, Ground.phase⟩, ⟨6, Ground.phase⟩, ⟨7, Ground.phase⟩, ⟨8, Ground.phase⟩, ⟨9, Ground.phase⟩, ⟨10, Ground.phase⟩, ⟨11, Ground.phase⟩, ⟨12, Ground.phase⟩], guard := none }) (v := .int .i64 ((((b - eg0) - l) - x) - r)) rfl (by kernel_rfl) (by kernel_rfl) (by kernel_rfl) (fun _ _ _ h => h) (Or.inl ⟨by rfl, by intro w hSw; go_simp⟩) hHeld2 ?_
  simp only [Act.put, List.setIfInBounds_toArray, List.set_cons_zero, List.set_cons_succ]
  refine wpAnyH_take (i := 14) (oi := { dst := some 7, op := Op.assign (Operand.const (Value.bool true)), type := 4, pos := "l6_width.go:94", after := #[⟨13, Ground.chain⟩, ⟨0, Ground.phase⟩, ⟨1, Ground.phase⟩, ⟨2, Ground.phase⟩, ⟨3, Ground.phase⟩, ⟨4, Ground.phase⟩, ⟨5, Ground.phase⟩, ⟨6, Ground.phase⟩, ⟨7, Ground.phase⟩, ⟨8, Ground.phase⟩, ⟨9, Ground.phase⟩, ⟨10, Ground.phase⟩, ⟨11, Ground.phase⟩, ⟨12, Ground.phase⟩, ⟨13, Ground.phase⟩], guard := none }) (v := Value.bool true) rfl (by kernel_rfl) (by kernel_rfl) (by kernel_rfl) (fun _ _ _ h => h) (Or.inl ⟨by rfl, by intro w hSw; go_simp⟩) hHeld2 ?_
  simp only [Act.put, List.setIfInBounds_toArray, List.set_cons_zero, List.set_cons_succ]
  refine wpAnyH_done (by kernel_rfl) ?_ _
  replace bel : Below w.heap.size w w2 := bel.trans (Below.mono (B := w1.heap.size) ⟨hb.os, hb.tape, hb.output, hb.size, hb.block⟩ bel.size)
  clear hb hHeld hHeld2 hx2 hS ED l0 l1
  go_wp2
  go_ret2
  exact ⟨congrArg Ending.returned (rs_yes HK.out (by rw [HG.out])), bel⟩
theorem specRest_any (s : St) (b l x r : Int) (w : World) :
    Calls Tryd.prog 14 #[.agg #[.int .i64 s.sh, .int .i64 s.fl, .int .i64 s.cl, .bool s.w.a, .bool s.w.p, .int .i64 s.w.n, .bool s.h.a, .bool s.h.p, .int .i64 s.h.n, .int .i64 s.mn, .int .i64 s.mx, .int .i64 s.mt, .bool s.mr.a, .bool s.mr.p, .int .i64 s.mr.n, .int .i64 s.mb, .bool s.ml.a, .bool s.ml.p, .int .i64 s.ml.n, .int .i64 s.bo, .int .i64 s.pa, .int .i64 s.wh, .int .i64 s.al, .int .i64 s.lh, .int .i64 s.ri, .int .i64 s.dn], .int .i64 b, .agg (#[.int .i64 l, .int .i64 x, .int .i64 r])] w fun e w' => e = .returned (rsV s b l x r) ∧ Below w.heap.size w w' := by
  cases hg : gdB s b
  · exact restS_g s b l x r w hg
  cases h2 : inB (-1000000) 1000000 l
  · exact restS_l s b l x r w hg h2
  cases h3 : inB (-1000000) 1000000 x
  · exact restS_x s b l x r w hg h2 h3
  cases h4 : inB (-1000000) 1000000 r
  · exact restS_r s b l x r w hg h2 h3 h4
  exact restS_y s b l x r w hg h2 h3 h4
end Go.Proofs.YtijondjiehoafaaDoor
