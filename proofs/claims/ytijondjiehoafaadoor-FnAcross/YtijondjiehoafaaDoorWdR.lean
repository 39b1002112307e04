/-
  The program's RestOf, for every style, every width around and every three numbers.
-/
import Derived.Test.YtijondjiehoafaaDoorWdK
namespace Go.Proofs.YtijondjiehoafaaDoor
open Go.ChangeShapes Go.WideShapes Go.ChangeAt Go.RowKit
set_option linter.unusedVariables false

theorem rs_no {s : St} {b l x r : Int} (h : okR s b l x r = false) : Value.tuple #[.int .i64 0, .bool false] = rsV s b l x r := by simp [rsV, h]
theorem rs_yes {s : St} {b l x r m : Int} (h : okR s b l x r = true) (hm : m = b - eg s - l - x - r) : Value.tuple #[.int .i64 m, .bool true] = rsV s b l x r := by simp [rsV, h, hm]
theorem okR_is {s : St} {b l x r : Int} (hs : styleB s = true) (hb : inB 0 1000000 b = true) : okR s b l x r = lenB l x r := by
  unfold okR lenB
  rw [hs, hb]
  cases inB (-1000000) 1000000 l <;> cases inB (-1000000) 1000000 x <;> cases inB (-1000000) 1000000 r <;> rfl
theorem lenB_yes {l x r : Int} (h : lenB l x r = true) : inB (-1000000) 1000000 l = true ∧ inB (-1000000) 1000000 x = true ∧ inB (-1000000) 1000000 r = true := by
  unfold lenB at h
  simp only [Bool.and_eq_true] at h
  exact ⟨h.1.1, h.1.2, h.2⟩
set_option maxRecDepth 100000 in
set_option maxHeartbeats 4000000 in
theorem rest_s (s : St) (b l x r : Int) (w : World) (et : TypeId) (ev : Value) (he : w.cell? ⟨1, 0, none⟩ = some (.iface et ev)) (hs : styleB s = false) :
    Calls Tryd.prog 16 #[.agg #[.int .i64 s.sh, .int .i64 s.fl, .int .i64 s.cl, .bool s.w.a, .bool s.w.p, .int .i64 s.w.n, .bool s.h.a, .bool s.h.p, .int .i64 s.h.n, .int .i64 s.mn, .int .i64 s.mx, .int .i64 s.mt, .bool s.mr.a, .bool s.mr.p, .int .i64 s.mr.n, .int .i64 s.mb, .bool s.ml.a, .bool s.ml.p, .int .i64 s.ml.n, .int .i64 s.bo, .int .i64 s.pa, .int .i64 s.wh, .int .i64 s.al, .int .i64 s.lh, .int .i64 s.ri, .int .i64 s.dn], .int .i64 b, .agg (#[.int .i64 l, .int .i64 x, .int .i64 r])] w fun e w' => e = .returned (rsV s b l x r) ∧ Below w.heap.size w w' := by
  have l0 : ((w.alloc (.cells (#[.int .i64 s.sh, .int .i64 s.fl, .int .i64 s.cl, .bool s.w.a, .bool s.w.p, .int .i64 s.w.n, .bool s.h.a, .bool s.h.p, .int .i64 s.h.n, .int .i64 s.mn, .int .i64 s.mx, .int .i64 s.mt, .bool s.mr.a, .bool s.mr.p, .int .i64 s.mr.n, .int .i64 s.mb, .bool s.ml.a, .bool s.ml.p, .int .i64 s.ml.n, .int .i64 s.bo, .int .i64 s.pa, .int .i64 s.wh, .int .i64 s.al, .int .i64 s.lh, .int .i64 s.ri, .int .i64 s.dn]) 32)).alloc (.cells (#[.int .i64 l, .int .i64 x, .int .i64 r]) 27)).heap[w.heap.size]? = some (.cells (stCells s) 32 (0, 0)) := heap_in (heap_at _ _ _ rfl)
  have l1 : ((w.alloc (.cells (#[.int .i64 s.sh, .int .i64 s.fl, .int .i64 s.cl, .bool s.w.a, .bool s.w.p, .int .i64 s.w.n, .bool s.h.a, .bool s.h.p, .int .i64 s.h.n, .int .i64 s.mn, .int .i64 s.mx, .int .i64 s.mt, .bool s.mr.a, .bool s.mr.p, .int .i64 s.mr.n, .int .i64 s.mb, .bool s.ml.a, .bool s.ml.p, .int .i64 s.ml.n, .int .i64 s.bo, .int .i64 s.pa, .int .i64 s.wh, .int .i64 s.al, .int .i64 s.lh, .int .i64 s.ri, .int .i64 s.dn]) 32)).alloc (.cells (#[.int .i64 l, .int .i64 x, .int .i64 r]) 27)).heap[w.heap.size + 1]? = some (.cells (#[.int .i64 l, .int .i64 x, .int .i64 r]) 27 (0, 0)) := heap_at _ _ _ (by simp)
  have bel : Below w.heap.size w ((w.alloc (.cells (#[.int .i64 s.sh, .int .i64 s.fl, .int .i64 s.cl, .bool s.w.a, .bool s.w.p, .int .i64 s.w.n, .bool s.h.a, .bool s.h.p, .int .i64 s.h.n, .int .i64 s.mn, .int .i64 s.mx, .int .i64 s.mt, .bool s.mr.a, .bool s.mr.p, .int .i64 s.mr.n, .int .i64 s.mb, .bool s.ml.a, .bool s.ml.p, .int .i64 s.ml.n, .int .i64 s.bo, .int .i64 s.pa, .int .i64 s.wh, .int .i64 s.al, .int .i64 s.lh, .int .i64 s.ri, .int .i64 s.dn]) 32)).alloc (.cells (#[.int .i64 l, .int .i64 x, .int .i64 r]) 27)) := ((Below.refl _ _).alloc (Nat.le_refl _) _).alloc (by simp) _
  have lte : 1 < w.heap.size := World.block_lt_of_cell? _ ⟨1, 0, none⟩ he
  have GS := implGoodStyle_any s ((w.alloc (.cells (#[.int .i64 s.sh, .int .i64 s.fl, .int .i64 s.cl, .bool s.w.a, .bool s.w.p, .int .i64 s.w.n, .bool s.h.a, .bool s.h.p, .int .i64 s.h.n, .int .i64 s.mn, .int .i64 s.mx, .int .i64 s.mt, .bool s.mr.a, .bool s.mr.p, .int .i64 s.mr.n, .int .i64 s.mb, .bool s.ml.a, .bool s.ml.p, .int .i64 s.ml.n, .int .i64 s.bo, .int .i64 s.pa, .int .i64 s.wh, .int .i64 s.al, .int .i64 s.lh, .int .i64 s.ri, .int .i64 s.dn]) 32)).alloc (.cells (#[.int .i64 l, .int .i64 x, .int .i64 r]) 27)) et ev ((bel.cell (p := ⟨1, 0, none⟩) lte).trans he)
  have EX := fun w => isExtent_any b w
  have HN := fun w => hasLen_any l x r w
  clear he
  have HK : Hid (okR s b l x r = false) := by show _ = _; unfold okR; rw [hs]; rfl
  rw [hs] at GS
  clear hs
  go_enter Tryd.func16, Tryd.ntmps16
  go_wp2_with ((with_reducible show wpList _ _ _ (⟨some 8, Op.load 32 _, _, _, _, _⟩ :: _) _ _); refine wpList_load_row rfl 32 _ rfl (w.heap.size) rfl _ (stCells s) _ _ l0 Tryd.underlying32 rfl (by kernel_rfl) ?_)
  refine GS.mono ?_
  rintro e w1 ⟨rfl, hb⟩
  replace bel := bel.trans (hb.mono bel.size)
  replace l0 := below_lies hb l0 (lies_lt l0)
  replace l1 := below_lies hb l1 (lies_lt l1)
  clear hb
  go_wp2
  go_ret2
  exact ⟨congrArg Ending.returned (rs_no HK.out), bel⟩
set_option maxRecDepth 100000 in
set_option maxHeartbeats 4000000 in
theorem rest_b (s : St) (b l x r : Int) (w : World) (et : TypeId) (ev : Value) (he : w.cell? ⟨1, 0, none⟩ = some (.iface et ev)) (hs : styleB s = true) (h1 : inB 0 1000000 b = false) :
    Calls Tryd.prog 16 #[.agg #[.int .i64 s.sh, .int .i64 s.fl, .int .i64 s.cl, .bool s.w.a, .bool s.w.p, .int .i64 s.w.n, .bool s.h.a, .bool s.h.p, .int .i64 s.h.n, .int .i64 s.mn, .int .i64 s.mx, .int .i64 s.mt, .bool s.mr.a, .bool s.mr.p, .int .i64 s.mr.n, .int .i64 s.mb, .bool s.ml.a, .bool s.ml.p, .int .i64 s.ml.n, .int .i64 s.bo, .int .i64 s.pa, .int .i64 s.wh, .int .i64 s.al, .int .i64 s.lh, .int .i64 s.ri, .int .i64 s.dn], .int .i64 b, .agg (#[.int .i64 l, .int .i64 x, .int .i64 r])] w fun e w' => e = .returned (rsV s b l x r) ∧ Below w.heap.size w w' := by
  have l0 : ((w.alloc (.cells (#[.int .i64 s.sh, .int .i64 s.fl, .int .i64 s.cl, .bool s.w.a, .bool s.w.p, .int .i64 s.w.n, .bool s.h.a, .bool s.h.p, .int .i64 s.h.n, .int .i64 s.mn, .int .i64 s.mx, .int .i64 s.mt, .bool s.mr.a, .bool s.mr.p, .int .i64 s.mr.n, .int .i64 s.mb, .bool s.ml.a, .bool s.ml.p, .int .i64 s.ml.n, .int .i64 s.bo, .int .i64 s.pa, .int .i64 s.wh, .int .i64 s.al, .int .i64 s.lh, .int .i64 s.ri, .int .i64 s.dn]) 32)).alloc (.cells (#[.int .i64 l, .int .i64 x, .int .i64 r]) 27)).heap[w.heap.size]? = some (.cells (stCells s) 32 (0, 0)) := heap_in (heap_at _ _ _ rfl)
  have l1 : ((w.alloc (.cells (#[.int .i64 s.sh, .int .i64 s.fl, .int .i64 s.cl, .bool s.w.a, .bool s.w.p, .int .i64 s.w.n, .bool s.h.a, .bool s.h.p, .int .i64 s.h.n, .int .i64 s.mn, .int .i64 s.mx, .int .i64 s.mt, .bool s.mr.a, .bool s.mr.p, .int .i64 s.mr.n, .int .i64 s.mb, .bool s.ml.a, .bool s.ml.p, .int .i64 s.ml.n, .int .i64 s.bo, .int .i64 s.pa, .int .i64 s.wh, .int .i64 s.al, .int .i64 s.lh, .int .i64 s.ri, .int .i64 s.dn]) 32)).alloc (.cells (#[.int .i64 l, .int .i64 x, .int .i64 r]) 27)).heap[w.heap.size + 1]? = some (.cells (#[.int .i64 l, .int .i64 x, .int .i64 r]) 27 (0, 0)) := heap_at _ _ _ (by simp)
  have bel : Below w.heap.size w ((w.alloc (.cells (#[.int .i64 s.sh, .int .i64 s.fl, .int .i64 s.cl, .bool s.w.a, .bool s.w.p, .int .i64 s.w.n, .bool s.h.a, .bool s.h.p, .int .i64 s.h.n, .int .i64 s.mn, .int .i64 s.mx, .int .i64 s.mt, .bool s.mr.a, .bool s.mr.p, .int .i64 s.mr.n, .int .i64 s.mb, .bool s.ml.a, .bool s.ml.p, .int .i64 s.ml.n, .int .i64 s.bo, .int .i64 s.pa, .int .i64 s.wh, .int .i64 s.al, .int .i64 s.lh, .int .i64 s.ri, .int .i64 s.dn]) 32)).alloc (.cells (#[.int .i64 l, .int .i64 x, .int .i64 r]) 27)) := ((Below.refl _ _).alloc (Nat.le_refl _) _).alloc (by simp) _
  have lte : 1 < w.heap.size := World.block_lt_of_cell? _ ⟨1, 0, none⟩ he
  have GS := implGoodStyle_any s ((w.alloc (.cells (#[.int .i64 s.sh, .int .i64 s.fl, .int .i64 s.cl, .bool s.w.a, .bool s.w.p, .int .i64 s.w.n, .bool s.h.a, .bool s.h.p, .int .i64 s.h.n, .int .i64 s.mn, .int .i64 s.mx, .int .i64 s.mt, .bool s.mr.a, .bool s.mr.p, .int .i64 s.mr.n, .int .i64 s.mb, .bool s.ml.a, .bool s.ml.p, .int .i64 s.ml.n, .int .i64 s.bo, .int .i64 s.pa, .int .i64 s.wh, .int .i64 s.al, .int .i64 s.lh, .int .i64 s.ri, .int .i64 s.dn]) 32)).alloc (.cells (#[.int .i64 l, .int .i64 x, .int .i64 r]) 27)) et ev ((bel.cell (p := ⟨1, 0, none⟩) lte).trans he)
  have EX := fun w => isExtent_any b w
  have HN := fun w => hasLen_any l x r w
  clear he
  have HK : Hid (okR s b l x r = false) := by show _ = _; unfold okR; rw [hs, h1]; rfl
  rw [hs] at GS
  rw [h1] at EX
  clear hs h1
  go_enter Tryd.func16, Tryd.ntmps16
  go_wp2_with ((with_reducible show wpList _ _ _ (⟨some 8, Op.load 32 _, _, _, _, _⟩ :: _) _ _); refine wpList_load_row rfl 32 _ rfl (w.heap.size) rfl _ (stCells s) _ _ l0 Tryd.underlying32 rfl (by kernel_rfl) ?_)
  refine GS.mono ?_
  rintro e w1 ⟨rfl, hb⟩
  replace bel := bel.trans (hb.mono bel.size)
  replace l0 := below_lies hb l0 (lies_lt l0)
  replace l1 := below_lies hb l1 (lies_lt l1)
  clear hb
  go_wp2_with (go_at_call 37; refine (EX _).mono ?_; rintro e w' ⟨rfl, hw⟩; have hw := hw.symm; subst hw)
  go_ret2
  exact ⟨congrArg Ending.returned (rs_no HK.out), bel⟩
set_option maxRecDepth 100000 in
set_option maxHeartbeats 4000000 in
theorem rest_l (s : St) (b l x r : Int) (w : World) (et : TypeId) (ev : Value) (he : w.cell? ⟨1, 0, none⟩ = some (.iface et ev)) (hs : styleB s = true) (h1 : inB 0 1000000 b = true) (h2 : lenB l x r = false) :
    Calls Tryd.prog 16 #[.agg #[.int .i64 s.sh, .int .i64 s.fl, .int .i64 s.cl, .bool s.w.a, .bool s.w.p, .int .i64 s.w.n, .bool s.h.a, .bool s.h.p, .int .i64 s.h.n, .int .i64 s.mn, .int .i64 s.mx, .int .i64 s.mt, .bool s.mr.a, .bool s.mr.p, .int .i64 s.mr.n, .int .i64 s.mb, .bool s.ml.a, .bool s.ml.p, .int .i64 s.ml.n, .int .i64 s.bo, .int .i64 s.pa, .int .i64 s.wh, .int .i64 s.al, .int .i64 s.lh, .int .i64 s.ri, .int .i64 s.dn], .int .i64 b, .agg (#[.int .i64 l, .int .i64 x, .int .i64 r])] w fun e w' => e = .returned (rsV s b l x r) ∧ Below w.heap.size w w' := by
  have l0 : ((w.alloc (.cells (#[.int .i64 s.sh, .int .i64 s.fl, .int .i64 s.cl, .bool s.w.a, .bool s.w.p, .int .i64 s.w.n, .bool s.h.a, .bool s.h.p, .int .i64 s.h.n, .int .i64 s.mn, .int .i64 s.mx, .int .i64 s.mt, .bool s.mr.a, .bool s.mr.p, .int .i64 s.mr.n, .int .i64 s.mb, .bool s.ml.a, .bool s.ml.p, .int .i64 s.ml.n, .int .i64 s.bo, .int .i64 s.pa, .int .i64 s.wh, .int .i64 s.al, .int .i64 s.lh, .int .i64 s.ri, .int .i64 s.dn]) 32)).alloc (.cells (#[.int .i64 l, .int .i64 x, .int .i64 r]) 27)).heap[w.heap.size]? = some (.cells (stCells s) 32 (0, 0)) := heap_in (heap_at _ _ _ rfl)
  have l1 : ((w.alloc (.cells (#[.int .i64 s.sh, .int .i64 s.fl, .int .i64 s.cl, .bool s.w.a, .bool s.w.p, .int .i64 s.w.n, .bool s.h.a, .bool s.h.p, .int .i64 s.h.n, .int .i64 s.mn, .int .i64 s.mx, .int .i64 s.mt, .bool s.mr.a, .bool s.mr.p, .int .i64 s.mr.n, .int .i64 s.mb, .bool s.ml.a, .bool s.ml.p, .int .i64 s.ml.n, .int .i64 s.bo, .int .i64 s.pa, .int .i64 s.wh, .int .i64 s.al, .int .i64 s.lh, .int .i64 s.ri, .int .i64 s.dn]) 32)).alloc (.cells (#[.int .i64 l, .int .i64 x, .int .i64 r]) 27)).heap[w.heap.size + 1]? = some (.cells (#[.int .i64 l, .int .i64 x, .int .i64 r]) 27 (0, 0)) := heap_at _ _ _ (by simp)
  have bel : Below w.heap.size w ((w.alloc (.cells (#[.int .i64 s.sh, .int .i64 s.fl, .int .i64 s.cl, .bool s.w.a, .bool s.w.p, .int .i64 s.w.n, .bool s.h.a, .bool s.h.p, .int .i64 s.h.n, .int .i64 s.mn, .int .i64 s.mx, .int .i64 s.mt, .bool s.mr.a, .bool s.mr.p, .int .i64 s.mr.n, .int .i64 s.mb, .bool s.ml.a, .bool s.ml.p, .int .i64 s.ml.n, .int .i64 s.bo, .int .i64 s.pa, .int .i64 s.wh, .int .i64 s.al, .int .i64 s.lh, .int .i64 s.ri, .int .i64 s.dn]) 32)).alloc (.cells (#[.int .i64 l, .int .i64 x, .int .i64 r]) 27)) := ((Below.refl _ _).alloc (Nat.le_refl _) _).alloc (by simp) _
  have lte : 1 < w.heap.size := World.block_lt_of_cell? _ ⟨1, 0, none⟩ he
  have GS := implGoodStyle_any s ((w.alloc (.cells (#[.int .i64 s.sh, .int .i64 s.fl, .int .i64 s.cl, .bool s.w.a, .bool s.w.p, .int .i64 s.w.n, .bool s.h.a, .bool s.h.p, .int .i64 s.h.n, .int .i64 s.mn, .int .i64 s.mx, .int .i64 s.mt, .bool s.mr.a, .bool s.mr.p, .int .i64 s.mr.n, .int .i64 s.mb, .bool s.ml.a, .bool s.ml.p, .int .i64 s.ml.n, .int .i64 s.bo, .int .i64 s.pa, .int .i64 s.wh, .int .i64 s.al, .int .i64 s.lh, .int .i64 s.ri, .int .i64 s.dn]) 32)).alloc (.cells (#[.int .i64 l, .int .i64 x, .int .i64 r]) 27)) et ev ((bel.cell (p := ⟨1, 0, none⟩) lte).trans he)
  have EX := fun w => isExtent_any b w
  have HN := fun w => hasLen_any l x r w
  clear he
  have HK : Hid (okR s b l x r = false) := by show _ = _; rw [okR_is hs h1, h2]
  rw [hs] at GS
  rw [h1] at EX
  rw [h2] at HN
  clear hs h1 h2
  go_enter Tryd.func16, Tryd.ntmps16
  go_wp2_with ((with_reducible show wpList _ _ _ (⟨some 8, Op.load 32 _, _, _, _, _⟩ :: _) _ _); refine wpList_load_row rfl 32 _ rfl (w.heap.size) rfl _ (stCells s) _ _ l0 Tryd.underlying32 rfl (by kernel_rfl) ?_)
  refine GS.mono ?_
  rintro e w1 ⟨rfl, hb⟩
  replace bel := bel.trans (hb.mono bel.size)
  replace l0 := below_lies hb l0 (lies_lt l0)
  replace l1 := below_lies hb l1 (lies_lt l1)
  clear hb
  go_wp2_with (first | (go_at_call 37; refine (EX _).mono ?_; rintro e w' ⟨rfl, hw⟩; have hw := hw.symm; subst hw) | ((with_reducible show wpList _ _ _ (⟨some 17, Op.load 27 _, _, _, _, _⟩ :: _) _ _); refine loadG (by rfl) 27 _ rfl (w.heap.size + 1) 0 rfl [.int .i64 l, .int .i64 x, .int .i64 r] _ (range_lies l1) Tryd.underlying27 rfl (by kernel_rfl) ?_) | fail)
  refine (HN _).mono ?_
  rintro e w7 ⟨rfl, hb⟩
  replace bel := bel.trans (hb.mono bel.size)
  replace l0 := below_lies hb l0 (lies_lt l0)
  replace l1 := below_lies hb l1 (lies_lt l1)
  clear hb
  go_wp2
  go_ret2
  exact ⟨congrArg Ending.returned (rs_no HK.out), bel⟩
set_option maxRecDepth 100000 in
set_option maxHeartbeats 4000000 in
theorem rest_y (s : St) (b l x r : Int) (w : World) (et : TypeId) (ev : Value) (he : w.cell? ⟨1, 0, none⟩ = some (.iface et ev)) (hs : styleB s = true) (h1 : inB 0 1000000 b = true) (h2 : lenB l x r = true) :
    Calls Tryd.prog 16 #[.agg #[.int .i64 s.sh, .int .i64 s.fl, .int .i64 s.cl, .bool s.w.a, .bool s.w.p, .int .i64 s.w.n, .bool s.h.a, .bool s.h.p, .int .i64 s.h.n, .int .i64 s.mn, .int .i64 s.mx, .int .i64 s.mt, .bool s.mr.a, .bool s.mr.p, .int .i64 s.mr.n, .int .i64 s.mb, .bool s.ml.a, .bool s.ml.p, .int .i64 s.ml.n, .int .i64 s.bo, .int .i64 s.pa, .int .i64 s.wh, .int .i64 s.al, .int .i64 s.lh, .int .i64 s.ri, .int .i64 s.dn], .int .i64 b, .agg (#[.int .i64 l, .int .i64 x, .int .i64 r])] w fun e w' => e = .returned (rsV s b l x r) ∧ Below w.heap.size w w' := by
  have l0 : ((w.alloc (.cells (#[.int .i64 s.sh, .int .i64 s.fl, .int .i64 s.cl, .bool s.w.a, .bool s.w.p, .int .i64 s.w.n, .bool s.h.a, .bool s.h.p, .int .i64 s.h.n, .int .i64 s.mn, .int .i64 s.mx, .int .i64 s.mt, .bool s.mr.a, .bool s.mr.p, .int .i64 s.mr.n, .int .i64 s.mb, .bool s.ml.a, .bool s.ml.p, .int .i64 s.ml.n, .int .i64 s.bo, .int .i64 s.pa, .int .i64 s.wh, .int .i64 s.al, .int .i64 s.lh, .int .i64 s.ri, .int .i64 s.dn]) 32)).alloc (.cells (#[.int .i64 l, .int .i64 x, .int .i64 r]) 27)).heap[w.heap.size]? = some (.cells (stCells s) 32 (0, 0)) := heap_in (heap_at _ _ _ rfl)
  have l1 : ((w.alloc (.cells (#[.int .i64 s.sh, .int .i64 s.fl, .int .i64 s.cl, .bool s.w.a, .bool s.w.p, .int .i64 s.w.n, .bool s.h.a, .bool s.h.p, .int .i64 s.h.n, .int .i64 s.mn, .int .i64 s.mx, .int .i64 s.mt, .bool s.mr.a, .bool s.mr.p, .int .i64 s.mr.n, .int .i64 s.mb, .bool s.ml.a, .bool s.ml.p, .int .i64 s.ml.n, .int .i64 s.bo, .int .i64 s.pa, .int .i64 s.wh, .int .i64 s.al, .int .i64 s.lh, .int .i64 s.ri, .int .i64 s.dn]) 32)).alloc (.cells (#[.int .i64 l, .int .i64 x, .int .i64 r]) 27)).heap[w.heap.size + 1]? = some (.cells (#[.int .i64 l, .int .i64 x, .int .i64 r]) 27 (0, 0)) := heap_at _ _ _ (by simp)
  have bel : Below w.heap.size w ((w.alloc (.cells (#[.int .i64 s.sh, .int .i64 s.fl, .int .i64 s.cl, .bool s.w.a, .bool s.w.p, .int .i64 s.w.n, .bool s.h.a, .bool s.h.p, .int .i64 s.h.n, .int .i64 s.mn, .int .i64 s.mx, .int .i64 s.mt, .bool s.mr.a, .bool s.mr.p, .int .i64 s.mr.n, .int .i64 s.mb, .bool s.ml.a, .bool s.ml.p, .int .i64 s.ml.n, .int .i64 s.bo, .int .i64 s.pa, .int .i64 s.wh, .int .i64 s.al, .int .i64 s.lh, .int .i64 s.ri, .int .i64 s.dn]) 32)).alloc (.cells (#[.int .i64 l, .int .i64 x, .int .i64 r]) 27)) := ((Below.refl _ _).alloc (Nat.le_refl _) _).alloc (by simp) _
  have lte : 1 < w.heap.size := World.block_lt_of_cell? _ ⟨1, 0, none⟩ he
  have GS := implGoodStyle_any s ((w.alloc (.cells (#[.int .i64 s.sh, .int .i64 s.fl, .int .i64 s.cl, .bool s.w.a, .bool s.w.p, .int .i64 s.w.n, .bool s.h.a, .bool s.h.p, .int .i64 s.h.n, .int .i64 s.mn, .int .i64 s.mx, .int .i64 s.mt, .bool s.mr.a, .bool s.mr.p, .int .i64 s.mr.n, .int .i64 s.mb, .bool s.ml.a, .bool s.ml.p, .int .i64 s.ml.n, .int .i64 s.bo, .int .i64 s.pa, .int .i64 s.wh, .int .i64 s.al, .int .i64 s.lh, .int .i64 s.ri, .int .i64 s.dn]) 32)).alloc (.cells (#[.int .i64 l, .int .i64 x, .int .i64 r]) 27)) et ev ((bel.cell (p := ⟨1, 0, none⟩) lte).trans he)
  have EX := fun w => isExtent_any b w
  have HN := fun w => hasLen_any l x r w
  clear he
  have hb1 := inB_yes h1
  obtain ⟨i1, i2, i3⟩ := lenB_yes h2
  have hl1 := inB_yes i1
  have hx1 := inB_yes i2
  have hr1 := inB_yes i3
  have RM := fun w => room_any s b l x r w hs hb1.1 hb1.2 hl1.1 hl1.2 hr1.1 hr1.2
  obtain ⟨e1, e2⟩ := eg_bd hs
  obtain ⟨rm, hrm⟩ : ∃ rm, rm = b - eg s - l - r := ⟨_, rfl⟩
  have rm1 : -10000000 ≤ rm := by omega
  have rm2 : rm ≤ 10000000 := by omega
  have HK : Hid (okR s b l x r = true ∧ rm - x = b - eg s - l - x - r) := by show _ ∧ _; exact ⟨by rw [okR_is hs h1, h2], by omega⟩
  rw [← hrm] at RM
  rw [hs] at GS
  rw [h1] at EX
  rw [h2] at HN
  obtain ⟨x1, x2⟩ := hx1
  clear hs h1 h2 hrm hb1 hl1 hr1 e1 e2 i1 i2 i3
  go_enter Tryd.func16, Tryd.ntmps16
  go_wp2_with ((with_reducible show wpList _ _ _ (⟨some 8, Op.load 32 _, _, _, _, _⟩ :: _) _ _); refine wpList_load_row rfl 32 _ rfl (w.heap.size) rfl _ (stCells s) _ _ l0 Tryd.underlying32 rfl (by kernel_rfl) ?_)
  refine GS.mono ?_
  rintro e w1 ⟨rfl, hb⟩
  replace bel := bel.trans (hb.mono bel.size)
  replace l0 := below_lies hb l0 (lies_lt l0)
  replace l1 := below_lies hb l1 (lies_lt l1)
  clear hb
  go_wp2_with (first | (go_at_call 37; refine (EX _).mono ?_; rintro e w' ⟨rfl, hw⟩; have hw := hw.symm; subst hw) | ((with_reducible show wpList _ _ _ (⟨some 17, Op.load 27 _, _, _, _, _⟩ :: _) _ _); refine loadG (by rfl) 27 _ rfl (w.heap.size + 1) 0 rfl [.int .i64 l, .int .i64 x, .int .i64 r] _ (range_lies l1) Tryd.underlying27 rfl (by kernel_rfl) ?_) | fail)
  refine (HN _).mono ?_
  rintro e w7 ⟨rfl, hb⟩
  replace bel := bel.trans (hb.mono bel.size)
  replace l0 := below_lies hb l0 (lies_lt l0)
  replace l1 := below_lies hb l1 (lies_lt l1)
  clear hb
  go_wp2_with fail
  have hS : Sx s w.heap.size l x r w7 := ⟨l0, l1⟩
  clear EX GS HN
  refine wp_region_held_drew (S := Sx s w.heap.size l x r) (by kernel_rfl) hS (fun hHeld => ?_)
  refine wpAnyH_take (i := 0) (oi := { dst := some 21, op := Op.load 32 (Operand.tmp 3), type := 32, pos := "l6_width.go:37", after := #[], guard := none }) (v := .agg ((stCells s).toList).toArray) rfl (by kernel_rfl) (by kernel_rfl) (by kernel_rfl) (fun _ _ _ h => h) (yieldsIf_load_mid (by rfl) 32 _ rfl (w.heap.size) 0 rfl ((stCells s).toList) _ (fun wz hw => range_lies hw.1) Tryd.underlying32 rfl (by kernel_rfl)) hHeld ?_
  simp only [Act.put, List.setIfInBounds_toArray, List.set_cons_zero, List.set_cons_succ]
  refine wpAnyH_take (i := 1) (oi := { dst := some 22, op := Op.move (Operand.tmp 1), type := 3, pos := "l6_width.go:37", after := #[], guard := none }) (v := .int .i64 b) rfl (by kernel_rfl) (by kernel_rfl) (by kernel_rfl) (fun _ _ _ h => h) (Or.inl ⟨by rfl, by intro w hSw; go_simp⟩) hHeld ?_
  simp only [Act.put, List.setIfInBounds_toArray, List.set_cons_zero, List.set_cons_succ]
  refine wpAnyH_take (i := 2) (oi := { dst := some 23, op := Op.load 27 (Operand.tmp 5), type := 27, pos := "l6_width.go:37", after := #[], guard := none }) (v := .agg ([.int .i64 l, .int .i64 x, .int .i64 r]).toArray) rfl (by kernel_rfl) (by kernel_rfl) (by kernel_rfl) (fun _ _ _ h => h) (yieldsIf_load_mid (by rfl) 27 _ rfl (w.heap.size + 1) 0 rfl ([.int .i64 l, .int .i64 x, .int .i64 r]) _ (fun wz hw => range_lies hw.2) Tryd.underlying27 rfl (by kernel_rfl)) hHeld ?_
  simp only [Act.put, List.setIfInBounds_toArray, List.set_cons_zero, List.set_cons_succ]
  refine wpAnyH_take (i := 4) (oi := { dst := some 25, op := Op.fieldAddr 27 (Operand.tmp 5) 1, type := 0, pos := "l6_width.go:37", after := #[], guard := none }) (v := .pointer (some ⟨w.heap.size + 1, 1, none⟩)) rfl (by kernel_rfl) (by kernel_rfl) (by kernel_rfl) (fun _ _ _ h => h) (Or.inl ⟨by rfl, by intro w hSw; go_simp⟩) hHeld ?_
  simp only [Act.put, List.setIfInBounds_toArray, List.set_cons_zero, List.set_cons_succ]
  refine wpAnyH_take (i := 5) (oi := { dst := some 26, op := Op.load 3 (Operand.tmp 25), type := 3, pos := "l6_width.go:37", after := #[⟨4, Ground.data⟩], guard := none }) (v := .int .i64 x) rfl (by kernel_rfl) (by kernel_rfl) (by kernel_rfl) (fun _ _ _ h => h) (Or.inl ⟨by rfl, by intro wz hSw; have hq : wz.cell? ⟨w.heap.size + 1, 1, none⟩ = some (.int .i64 x) := (lies_cell hSw.2 1).trans rfl; clear hSw; go_simp⟩) hHeld ?_
  simp only [Act.put, List.setIfInBounds_toArray, List.set_cons_zero, List.set_cons_succ]
  refine wpAnyH_ready (rs := [3]) (by kernel_rfl) (by simp) ?_
  refine AllReadyH.cons (o := { dst := some 24, op := Op.call { callee := Callee.value (Operand.func 42), args := #[Operand.tmp 21, Operand.tmp 22, Operand.tmp 23], argTypes := #[32, 3, 27] }, type := 3, pos := "l6_width.go:37", after := #[⟨0, Ground.data⟩, ⟨1, Ground.data⟩, ⟨2, Ground.data⟩], guard := none }) rfl (fun K hK => ?_) AllReadyH.nil
  go_simp
  refine (RM _).mono ?_
  rintro e w2 ⟨rfl, hb⟩
  have hx2 : Sx s w.heap.size l x r w2 := ⟨below_lies hb hHeld.1 (lies_lt hHeld.1), below_lies hb hHeld.2 (lies_lt hHeld.2)⟩
  go_wp2_with fail
  refine hK.out _ _ hx2 (fun hHeld2 => ?_)
  clear hK K
  try simp only [Act.put, List.setIfInBounds_toArray, List.set_cons_zero, List.set_cons_succ]
  refine wpAnyH_take (i := 6) (oi := { dst := some 27, op := Op.binOp BinOp.sub 3 (Operand.tmp 24) (Operand.tmp 26) 3, type := 3, pos := "l6_width.go:37", after := #[⟨3, Ground.data⟩, ⟨5, Ground.data⟩], guard := none }) (v := .int .i64 (rm - x)) rfl (by kernel_rfl) (by kernel_rfl) (by kernel_rfl) (fun _ _ _ h => h) (Or.inl ⟨by rfl, by intro wz hSw; go_simp; exact wrap6 (by omega) (by omega)⟩) hHeld2 ?_
  simp only [Act.put, List.setIfInBounds_toArray, List.set_cons_zero, List.set_cons_succ]
  refine wpAnyH_take (i := 7) (oi := { dst := some 6, op := Op.assign (Operand.tmp 27), type := 3, pos := "l6_width.go:37", after := #[⟨6, Ground.data⟩, ⟨3, Ground.chain⟩, ⟨0, Ground.phase⟩, ⟨1, Ground.phase⟩, ⟨2, Ground.phase⟩, ⟨3, Ground.phase⟩, ⟨4, Ground.phase⟩, ⟨5, Ground.phase⟩, ⟨6, Ground.phase⟩], guard := none }) (v := .int .i64 (rm - x)) rfl (by kernel_rfl) (by kernel_rfl) (by kernel_rfl) (fun _ _ _ h => h) (Or.inl ⟨by rfl, by intro w hSw; go_simp⟩) hHeld2 ?_
  simp only [Act.put, List.setIfInBounds_toArray, List.set_cons_zero, List.set_cons_succ]
  refine wpAnyH_take (i := 8) (oi := { dst := some 7, op := Op.assign (Operand.const (Value.bool true)), type := 4, pos := "l6_width.go:37", after := #[⟨7, Ground.chain⟩, ⟨0, Ground.phase⟩, ⟨1, Ground.phase⟩, ⟨2, Ground.phase⟩, ⟨3, Ground.phase⟩, ⟨4, Ground.phase⟩, ⟨5, Ground.phase⟩, ⟨6, Ground.phase⟩, ⟨7, Ground.phase⟩], guard := none }) (v := Value.bool true) rfl (by kernel_rfl) (by kernel_rfl) (by kernel_rfl) (fun _ _ _ h => h) (Or.inl ⟨by rfl, by intro w hSw; go_simp⟩) hHeld2 ?_
  simp only [Act.put, List.setIfInBounds_toArray, List.set_cons_zero, List.set_cons_succ]
  refine wpAnyH_done (by kernel_rfl) ?_ _
  replace bel : Below w.heap.size w w2 := bel.trans (Below.mono (B := w7.heap.size) ⟨hb.os, hb.tape, hb.output, hb.size, hb.block⟩ bel.size)
  clear hb hHeld hHeld2 hx2 hS RM l0 l1
  go_wp2
  go_ret2
  exact ⟨congrArg Ending.returned (rs_yes HK.out.1 HK.out.2), bel⟩
theorem implRest_any (s : St) (b l x r : Int) (w : World) (et : TypeId) (ev : Value) (he : w.cell? ⟨1, 0, none⟩ = some (.iface et ev)) :
    Calls Tryd.prog 16 #[.agg #[.int .i64 s.sh, .int .i64 s.fl, .int .i64 s.cl, .bool s.w.a, .bool s.w.p, .int .i64 s.w.n, .bool s.h.a, .bool s.h.p, .int .i64 s.h.n, .int .i64 s.mn, .int .i64 s.mx, .int .i64 s.mt, .bool s.mr.a, .bool s.mr.p, .int .i64 s.mr.n, .int .i64 s.mb, .bool s.ml.a, .bool s.ml.p, .int .i64 s.ml.n, .int .i64 s.bo, .int .i64 s.pa, .int .i64 s.wh, .int .i64 s.al, .int .i64 s.lh, .int .i64 s.ri, .int .i64 s.dn], .int .i64 b, .agg (#[.int .i64 l, .int .i64 x, .int .i64 r])] w fun e w' => e = .returned (rsV s b l x r) ∧ Below w.heap.size w w' := by
  cases hs : styleB s
  · exact rest_s s b l x r w et ev he hs
  cases h1 : inB 0 1000000 b
  · exact rest_b s b l x r w et ev he hs h1
  cases h2 : lenB l x r
  · exact rest_l s b l x r w et ev he hs h1 h2
  exact rest_y s b l x r w et ev he hs h1 h2
end Go.Proofs.YtijondjiehoafaaDoor
