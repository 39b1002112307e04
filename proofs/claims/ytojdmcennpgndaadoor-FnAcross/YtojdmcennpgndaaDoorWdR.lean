/-
  The program's RestOf, for every style, every width around and every three numbers.
-/
import Derived.Test.YtojdmcennpgndaaDoorWdK
namespace Go.Proofs.YtojdmcennpgndaaDoor
open Go.ChangeShapes Go.WideShapes Go.ChangeAt Go.RowKit
set_option linter.unusedVariables false

theorem rs_no {s : St} {b l x r : Int} (h : okR s b l x r = false) : Value.tuple #[.int .i64 0, .bool false] = rsV s b l x r := by simp [rsV, h]
theorem rs_yes {s : St} {b l x r m : Int} (h : okR s b l x r = true) (hm : m = b - eg s - l - x - r) : Value.tuple #[.int .i64 m, .bool true] = rsV s b l x r := by simp [rsV, h, hm]
theorem implLen_any (n : Int) (w : World) : Calls Tryd.prog 23 #[.int .i64 n] w fun e w' => e = .returned (.bool (inB (-1000000) 1000000 n)) ∧ w' = w := by
  by_cases h1 : -1000000 ≤ n
  · by_cases h2 : n ≤ 1000000
    · go_enter Tryd.func23, Tryd.ntmps23
      go_wp2
      go_ret
      exact ⟨ret_bool (inB_is ⟨h1, h2⟩), rfl⟩
    · go_enter Tryd.func23, Tryd.ntmps23
      go_wp2
      go_ret
      exact ⟨ret_bool (inB_not (by omega)), rfl⟩
  · go_enter Tryd.func23, Tryd.ntmps23
    go_wp2
    go_ret
    exact ⟨ret_bool (inB_not (by omega)), rfl⟩
set_option maxRecDepth 100000 in
set_option maxHeartbeats 4000000 in
theorem rest_s (s : St) (b l x r : Int) (w : World) (et : TypeId) (ev : Value) (he : w.cell? ⟨0, 0, none⟩ = some (.iface et ev)) (hs : styleB s = false) :
    Calls Tryd.prog 7 #[.agg #[.int .i64 s.sh, .int .i64 s.fl, .int .i64 s.cl, .bool s.w.a, .bool s.w.p, .int .i64 s.w.n, .bool s.h.a, .bool s.h.p, .int .i64 s.h.n, .int .i64 s.mn, .int .i64 s.mx, .int .i64 s.mt, .bool s.mr.a, .bool s.mr.p, .int .i64 s.mr.n, .int .i64 s.mb, .bool s.ml.a, .bool s.ml.p, .int .i64 s.ml.n, .int .i64 s.bo, .int .i64 s.pa, .int .i64 s.wh, .int .i64 s.al, .int .i64 s.lh, .int .i64 s.ri, .int .i64 s.dn], .int .i64 b, .agg (#[.int .i64 l, .int .i64 x, .int .i64 r])] w fun e w' => e = .returned (rsV s b l x r) ∧ Below w.heap.size w w' := by
  have l0 : ((w.alloc (.cells (#[.int .i64 s.sh, .int .i64 s.fl, .int .i64 s.cl, .bool s.w.a, .bool s.w.p, .int .i64 s.w.n, .bool s.h.a, .bool s.h.p, .int .i64 s.h.n, .int .i64 s.mn, .int .i64 s.mx, .int .i64 s.mt, .bool s.mr.a, .bool s.mr.p, .int .i64 s.mr.n, .int .i64 s.mb, .bool s.ml.a, .bool s.ml.p, .int .i64 s.ml.n, .int .i64 s.bo, .int .i64 s.pa, .int .i64 s.wh, .int .i64 s.al, .int .i64 s.lh, .int .i64 s.ri, .int .i64 s.dn]) 26)).alloc (.cells (#[.int .i64 l, .int .i64 x, .int .i64 r]) 30)).heap[w.heap.size]? = some (.cells (stCells s) 26 (0, 0)) := heap_in (heap_at _ _ _ rfl)
  have l1 : ((w.alloc (.cells (#[.int .i64 s.sh, .int .i64 s.fl, .int .i64 s.cl, .bool s.w.a, .bool s.w.p, .int .i64 s.w.n, .bool s.h.a, .bool s.h.p, .int .i64 s.h.n, .int .i64 s.mn, .int .i64 s.mx, .int .i64 s.mt, .bool s.mr.a, .bool s.mr.p, .int .i64 s.mr.n, .int .i64 s.mb, .bool s.ml.a, .bool s.ml.p, .int .i64 s.ml.n, .int .i64 s.bo, .int .i64 s.pa, .int .i64 s.wh, .int .i64 s.al, .int .i64 s.lh, .int .i64 s.ri, .int .i64 s.dn]) 26)).alloc (.cells (#[.int .i64 l, .int .i64 x, .int .i64 r]) 30)).heap[w.heap.size + 1]? = some (.cells (#[.int .i64 l, .int .i64 x, .int .i64 r]) 30 (0, 0)) := heap_at _ _ _ (by simp)
  have bel : Below w.heap.size w ((w.alloc (.cells (#[.int .i64 s.sh, .int .i64 s.fl, .int .i64 s.cl, .bool s.w.a, .bool s.w.p, .int .i64 s.w.n, .bool s.h.a, .bool s.h.p, .int .i64 s.h.n, .int .i64 s.mn, .int .i64 s.mx, .int .i64 s.mt, .bool s.mr.a, .bool s.mr.p, .int .i64 s.mr.n, .int .i64 s.mb, .bool s.ml.a, .bool s.ml.p, .int .i64 s.ml.n, .int .i64 s.bo, .int .i64 s.pa, .int .i64 s.wh, .int .i64 s.al, .int .i64 s.lh, .int .i64 s.ri, .int .i64 s.dn]) 26)).alloc (.cells (#[.int .i64 l, .int .i64 x, .int .i64 r]) 30)) := ((Below.refl _ _).alloc (Nat.le_refl _) _).alloc (by simp) _
  have lte : 0 < w.heap.size := World.block_lt_of_cell? _ ⟨0, 0, none⟩ he
  have GS := implGoodStyle_any s ((w.alloc (.cells (#[.int .i64 s.sh, .int .i64 s.fl, .int .i64 s.cl, .bool s.w.a, .bool s.w.p, .int .i64 s.w.n, .bool s.h.a, .bool s.h.p, .int .i64 s.h.n, .int .i64 s.mn, .int .i64 s.mx, .int .i64 s.mt, .bool s.mr.a, .bool s.mr.p, .int .i64 s.mr.n, .int .i64 s.mb, .bool s.ml.a, .bool s.ml.p, .int .i64 s.ml.n, .int .i64 s.bo, .int .i64 s.pa, .int .i64 s.wh, .int .i64 s.al, .int .i64 s.lh, .int .i64 s.ri, .int .i64 s.dn]) 26)).alloc (.cells (#[.int .i64 l, .int .i64 x, .int .i64 r]) 30)) et ev ((bel.cell (p := ⟨0, 0, none⟩) lte).trans he)
  have EX := fun w => isExtent_any b w
  have GL := fun w => implLen_any l w
  have GX := fun w => implLen_any x w
  have GR := fun w => implLen_any r w
  clear he
  have HK : Hid (okR s b l x r = false) := by show _ = _; unfold okR; rw [hs]; rfl
  rw [hs] at GS
  clear hs
  go_enter Tryd.func7, Tryd.ntmps7
  go_wp2_with ((with_reducible show wpList _ _ _ (⟨some 8, Op.load 26 _, _, _, _, _⟩ :: _) _ _); refine wpList_load_row rfl 26 _ rfl (w.heap.size) rfl _ (stCells s) _ _ l0 Tryd.underlying26 rfl (by kernel_rfl) ?_)
  refine GS.mono ?_
  rintro e w1 ⟨rfl, hb⟩
  replace bel := bel.trans (hb.mono bel.size)
  replace l0 := below_lies hb l0 (lies_lt l0)
  replace l1 := below_lies hb l1 (lies_lt l1)
  clear hb
  have d0 : w1.cell? ⟨w.heap.size + 1, 0, none⟩ = some (.int .i64 l) := (lies_cell l1 0).trans rfl
  have d1 : w1.cell? ⟨w.heap.size + 1, 1, none⟩ = some (.int .i64 x) := (lies_cell l1 1).trans rfl
  have d2 : w1.cell? ⟨w.heap.size + 1, 2, none⟩ = some (.int .i64 r) := (lies_cell l1 2).trans rfl
  go_wp2
  go_ret2
  exact ⟨congrArg Ending.returned (rs_no HK.out), bel⟩
set_option maxRecDepth 100000 in
set_option maxHeartbeats 4000000 in
theorem rest_b (s : St) (b l x r : Int) (w : World) (et : TypeId) (ev : Value) (he : w.cell? ⟨0, 0, none⟩ = some (.iface et ev)) (hs : styleB s = true) (h1 : inB 0 1000000 b = false) :
    Calls Tryd.prog 7 #[.agg #[.int .i64 s.sh, .int .i64 s.fl, .int .i64 s.cl, .bool s.w.a, .bool s.w.p, .int .i64 s.w.n, .bool s.h.a, .bool s.h.p, .int .i64 s.h.n, .int .i64 s.mn, .int .i64 s.mx, .int .i64 s.mt, .bool s.mr.a, .bool s.mr.p, .int .i64 s.mr.n, .int .i64 s.mb, .bool s.ml.a, .bool s.ml.p, .int .i64 s.ml.n, .int .i64 s.bo, .int .i64 s.pa, .int .i64 s.wh, .int .i64 s.al, .int .i64 s.lh, .int .i64 s.ri, .int .i64 s.dn], .int .i64 b, .agg (#[.int .i64 l, .int .i64 x, .int .i64 r])] w fun e w' => e = .returned (rsV s b l x r) ∧ Below w.heap.size w w' := by
  have l0 : ((w.alloc (.cells (#[.int .i64 s.sh, .int .i64 s.fl, .int .i64 s.cl, .bool s.w.a, .bool s.w.p, .int .i64 s.w.n, .bool s.h.a, .bool s.h.p, .int .i64 s.h.n, .int .i64 s.mn, .int .i64 s.mx, .int .i64 s.mt, .bool s.mr.a, .bool s.mr.p, .int .i64 s.mr.n, .int .i64 s.mb, .bool s.ml.a, .bool s.ml.p, .int .i64 s.ml.n, .int .i64 s.bo, .int .i64 s.pa, .int .i64 s.wh, .int .i64 s.al, .int .i64 s.lh, .int .i64 s.ri, .int .i64 s.dn]) 26)).alloc (.cells (#[.int .i64 l, .int .i64 x, .int .i64 r]) 30)).heap[w.heap.size]? = some (.cells (stCells s) 26 (0, 0)) := heap_in (heap_at _ _ _ rfl)
  have l1 : ((w.alloc (.cells (#[.int .i64 s.sh, .int .i64 s.fl, .int .i64 s.cl, .bool s.w.a, .bool s.w.p, .int .i64 s.w.n, .bool s.h.a, .bool s.h.p, .int .i64 s.h.n, .int .i64 s.mn, .int .i64 s.mx, .int .i64 s.mt, .bool s.mr.a, .bool s.mr.p, .int .i64 s.mr.n, .int .i64 s.mb, .bool s.ml.a, .bool s.ml.p, .int .i64 s.ml.n, .int .i64 s.bo, .int .i64 s.pa, .int .i64 s.wh, .int .i64 s.al, .int .i64 s.lh, .int .i64 s.ri, .int .i64 s.dn]) 26)).alloc (.cells (#[.int .i64 l, .int .i64 x, .int .i64 r]) 30)).heap[w.heap.size + 1]? = some (.cells (#[.int .i64 l, .int .i64 x, .int .i64 r]) 30 (0, 0)) := heap_at _ _ _ (by simp)
  have bel : Below w.heap.size w ((w.alloc (.cells (#[.int .i64 s.sh, .int .i64 s.fl, .int .i64 s.cl, .bool s.w.a, .bool s.w.p, .int .i64 s.w.n, .bool s.h.a, .bool s.h.p, .int .i64 s.h.n, .int .i64 s.mn, .int .i64 s.mx, .int .i64 s.mt, .bool s.mr.a, .bool s.mr.p, .int .i64 s.mr.n, .int .i64 s.mb, .bool s.ml.a, .bool s.ml.p, .int .i64 s.ml.n, .int .i64 s.bo, .int .i64 s.pa, .int .i64 s.wh, .int .i64 s.al, .int .i64 s.lh, .int .i64 s.ri, .int .i64 s.dn]) 26)).alloc (.cells (#[.int .i64 l, .int .i64 x, .int .i64 r]) 30)) := ((Below.refl _ _).alloc (Nat.le_refl _) _).alloc (by simp) _
  have lte : 0 < w.heap.size := World.block_lt_of_cell? _ ⟨0, 0, none⟩ he
  have GS := implGoodStyle_any s ((w.alloc (.cells (#[.int .i64 s.sh, .int .i64 s.fl, .int .i64 s.cl, .bool s.w.a, .bool s.w.p, .int .i64 s.w.n, .bool s.h.a, .bool s.h.p, .int .i64 s.h.n, .int .i64 s.mn, .int .i64 s.mx, .int .i64 s.mt, .bool s.mr.a, .bool s.mr.p, .int .i64 s.mr.n, .int .i64 s.mb, .bool s.ml.a, .bool s.ml.p, .int .i64 s.ml.n, .int .i64 s.bo, .int .i64 s.pa, .int .i64 s.wh, .int .i64 s.al, .int .i64 s.lh, .int .i64 s.ri, .int .i64 s.dn]) 26)).alloc (.cells (#[.int .i64 l, .int .i64 x, .int .i64 r]) 30)) et ev ((bel.cell (p := ⟨0, 0, none⟩) lte).trans he)
  have EX := fun w => isExtent_any b w
  have GL := fun w => implLen_any l w
  have GX := fun w => implLen_any x w
  have GR := fun w => implLen_any r w
  clear he
  have HK : Hid (okR s b l x r = false) := by show _ = _; unfold okR; rw [hs, h1]; rfl
  rw [hs] at GS
  rw [h1] at EX
  clear hs h1
  go_enter Tryd.func7, Tryd.ntmps7
  go_wp2_with ((with_reducible show wpList _ _ _ (⟨some 8, Op.load 26 _, _, _, _, _⟩ :: _) _ _); refine wpList_load_row rfl 26 _ rfl (w.heap.size) rfl _ (stCells s) _ _ l0 Tryd.underlying26 rfl (by kernel_rfl) ?_)
  refine GS.mono ?_
  rintro e w1 ⟨rfl, hb⟩
  replace bel := bel.trans (hb.mono bel.size)
  replace l0 := below_lies hb l0 (lies_lt l0)
  replace l1 := below_lies hb l1 (lies_lt l1)
  clear hb
  have d0 : w1.cell? ⟨w.heap.size + 1, 0, none⟩ = some (.int .i64 l) := (lies_cell l1 0).trans rfl
  have d1 : w1.cell? ⟨w.heap.size + 1, 1, none⟩ = some (.int .i64 x) := (lies_cell l1 1).trans rfl
  have d2 : w1.cell? ⟨w.heap.size + 1, 2, none⟩ = some (.int .i64 r) := (lies_cell l1 2).trans rfl
  go_wp2_with (go_at_call 22; refine (EX _).mono ?_; rintro e w' ⟨rfl, hw⟩; have hw := hw.symm; subst hw)
  go_ret2
  exact ⟨congrArg Ending.returned (rs_no HK.out), bel⟩
set_option maxRecDepth 100000 in
set_option maxHeartbeats 4000000 in
theorem rest_l (s : St) (b l x r : Int) (w : World) (et : TypeId) (ev : Value) (he : w.cell? ⟨0, 0, none⟩ = some (.iface et ev)) (hs : styleB s = true) (h1 : inB 0 1000000 b = true) (h2 : inB (-1000000) 1000000 l = false) :
    Calls Tryd.prog 7 #[.agg #[.int .i64 s.sh, .int .i64 s.fl, .int .i64 s.cl, .bool s.w.a, .bool s.w.p, .int .i64 s.w.n, .bool s.h.a, .bool s.h.p, .int .i64 s.h.n, .int .i64 s.mn, .int .i64 s.mx, .int .i64 s.mt, .bool s.mr.a, .bool s.mr.p, .int .i64 s.mr.n, .int .i64 s.mb, .bool s.ml.a, .bool s.ml.p, .int .i64 s.ml.n, .int .i64 s.bo, .int .i64 s.pa, .int .i64 s.wh, .int .i64 s.al, .int .i64 s.lh, .int .i64 s.ri, .int .i64 s.dn], .int .i64 b, .agg (#[.int .i64 l, .int .i64 x, .int .i64 r])] w fun e w' => e = .returned (rsV s b l x r) ∧ Below w.heap.size w w' := by
  have l0 : ((w.alloc (.cells (#[.int .i64 s.sh, .int .i64 s.fl, .int .i64 s.cl, .bool s.w.a, .bool s.w.p, .int .i64 s.w.n, .bool s.h.a, .bool s.h.p, .int .i64 s.h.n, .int .i64 s.mn, .int .i64 s.mx, .int .i64 s.mt, .bool s.mr.a, .bool s.mr.p, .int .i64 s.mr.n, .int .i64 s.mb, .bool s.ml.a, .bool s.ml.p, .int .i64 s.ml.n, .int .i64 s.bo, .int .i64 s.pa, .int .i64 s.wh, .int .i64 s.al, .int .i64 s.lh, .int .i64 s.ri, .int .i64 s.dn]) 26)).alloc (.cells (#[.int .i64 l, .int .i64 x, .int .i64 r]) 30)).heap[w.heap.size]? = some (.cells (stCells s) 26 (0, 0)) := heap_in (heap_at _ _ _ rfl)
  have l1 : ((w.alloc (.cells (#[.int .i64 s.sh, .int .i64 s.fl, .int .i64 s.cl, .bool s.w.a, .bool s.w.p, .int .i64 s.w.n, .bool s.h.a, .bool s.h.p, .int .i64 s.h.n, .int .i64 s.mn, .int .i64 s.mx, .int .i64 s.mt, .bool s.mr.a, .bool s.mr.p, .int .i64 s.mr.n, .int .i64 s.mb, .bool s.ml.a, .bool s.ml.p, .int .i64 s.ml.n, .int .i64 s.bo, .int .i64 s.pa, .int .i64 s.wh, .int .i64 s.al, .int .i64 s.lh, .int .i64 s.ri, .int .i64 s.dn]) 26)).alloc (.cells (#[.int .i64 l, .int .i64 x, .int .i64 r]) 30)).heap[w.heap.size + 1]? = some (.cells (#[.int .i64 l, .int .i64 x, .int .i64 r]) 30 (0, 0)) := heap_at _ _ _ (by simp)
  have bel : Below w.heap.size w ((w.alloc (.cells (#[.int .i64 s.sh, .int .i64 s.fl, .int .i64 s.cl, .bool s.w.a, .bool s.w.p, .int .i64 s.w.n, .bool s.h.a, .bool s.h.p, .int .i64 s.h.n, .int .i64 s.mn, .int .i64 s.mx, .int .i64 s.mt, .bool s.mr.a, .bool s.mr.p, .int .i64 s.mr.n, .int .i64 s.mb, .bool s.ml.a, .bool s.ml.p, .int .i64 s.ml.n, .int .i64 s.bo, .int .i64 s.pa, .int .i64 s.wh, .int .i64 s.al, .int .i64 s.lh, .int .i64 s.ri, .int .i64 s.dn]) 26)).alloc (.cells (#[.int .i64 l, .int .i64 x, .int .i64 r]) 30)) := ((Below.refl _ _).alloc (Nat.le_refl _) _).alloc (by simp) _
  have lte : 0 < w.heap.size := World.block_lt_of_cell? _ ⟨0, 0, none⟩ he
  have GS := implGoodStyle_any s ((w.alloc (.cells (#[.int .i64 s.sh, .int .i64 s.fl, .int .i64 s.cl, .bool s.w.a, .bool s.w.p, .int .i64 s.w.n, .bool s.h.a, .bool s.h.p, .int .i64 s.h.n, .int .i64 s.mn, .int .i64 s.mx, .int .i64 s.mt, .bool s.mr.a, .bool s.mr.p, .int .i64 s.mr.n, .int .i64 s.mb, .bool s.ml.a, .bool s.ml.p, .int .i64 s.ml.n, .int .i64 s.bo, .int .i64 s.pa, .int .i64 s.wh, .int .i64 s.al, .int .i64 s.lh, .int .i64 s.ri, .int .i64 s.dn]) 26)).alloc (.cells (#[.int .i64 l, .int .i64 x, .int .i64 r]) 30)) et ev ((bel.cell (p := ⟨0, 0, none⟩) lte).trans he)
  have EX := fun w => isExtent_any b w
  have GL := fun w => implLen_any l w
  have GX := fun w => implLen_any x w
  have GR := fun w => implLen_any r w
  clear he
  have HK : Hid (okR s b l x r = false) := by show _ = _; unfold okR; rw [hs, h1, h2]; rfl
  rw [hs] at GS
  rw [h1] at EX
  rw [h2] at GL
  clear hs h1 h2
  go_enter Tryd.func7, Tryd.ntmps7
  go_wp2_with ((with_reducible show wpList _ _ _ (⟨some 8, Op.load 26 _, _, _, _, _⟩ :: _) _ _); refine wpList_load_row rfl 26 _ rfl (w.heap.size) rfl _ (stCells s) _ _ l0 Tryd.underlying26 rfl (by kernel_rfl) ?_)
  refine GS.mono ?_
  rintro e w1 ⟨rfl, hb⟩
  replace bel := bel.trans (hb.mono bel.size)
  replace l0 := below_lies hb l0 (lies_lt l0)
  replace l1 := below_lies hb l1 (lies_lt l1)
  clear hb
  have d0 : w1.cell? ⟨w.heap.size + 1, 0, none⟩ = some (.int .i64 l) := (lies_cell l1 0).trans rfl
  have d1 : w1.cell? ⟨w.heap.size + 1, 1, none⟩ = some (.int .i64 x) := (lies_cell l1 1).trans rfl
  have d2 : w1.cell? ⟨w.heap.size + 1, 2, none⟩ = some (.int .i64 r) := (lies_cell l1 2).trans rfl
  go_wp2_with (first | (go_at_call 22; refine (EX _).mono ?_; rintro e w' ⟨rfl, hw⟩; have hw := hw.symm; subst hw) | (go_at_call 23; refine (GL _).mono ?_; rintro e w' ⟨rfl, hw⟩; have hw := hw.symm; subst hw) | (go_at_call 23; refine (GX _).mono ?_; rintro e w' ⟨rfl, hw⟩; have hw := hw.symm; subst hw) | (go_at_call 23; refine (GR _).mono ?_; rintro e w' ⟨rfl, hw⟩; have hw := hw.symm; subst hw))
  go_ret2
  exact ⟨congrArg Ending.returned (rs_no HK.out), bel⟩
set_option maxRecDepth 100000 in
set_option maxHeartbeats 4000000 in
theorem rest_x (s : St) (b l x r : Int) (w : World) (et : TypeId) (ev : Value) (he : w.cell? ⟨0, 0, none⟩ = some (.iface et ev)) (hs : styleB s = true) (h1 : inB 0 1000000 b = true) (h2 : inB (-1000000) 1000000 l = true) (h3 : inB (-1000000) 1000000 x = false) :
    Calls Tryd.prog 7 #[.agg #[.int .i64 s.sh, .int .i64 s.fl, .int .i64 s.cl, .bool s.w.a, .bool s.w.p, .int .i64 s.w.n, .bool s.h.a, .bool s.h.p, .int .i64 s.h.n, .int .i64 s.mn, .int .i64 s.mx, .int .i64 s.mt, .bool s.mr.a, .bool s.mr.p, .int .i64 s.mr.n, .int .i64 s.mb, .bool s.ml.a, .bool s.ml.p, .int .i64 s.ml.n, .int .i64 s.bo, .int .i64 s.pa, .int .i64 s.wh, .int .i64 s.al, .int .i64 s.lh, .int .i64 s.ri, .int .i64 s.dn], .int .i64 b, .agg (#[.int .i64 l, .int .i64 x, .int .i64 r])] w fun e w' => e = .returned (rsV s b l x r) ∧ Below w.heap.size w w' := by
  have l0 : ((w.alloc (.cells (#[.int .i64 s.sh, .int .i64 s.fl, .int .i64 s.cl, .bool s.w.a, .bool s.w.p, .int .i64 s.w.n, .bool s.h.a, .bool s.h.p, .int .i64 s.h.n, .int .i64 s.mn, .int .i64 s.mx, .int .i64 s.mt, .bool s.mr.a, .bool s.mr.p, .int .i64 s.mr.n, .int .i64 s.mb, .bool s.ml.a, .bool s.ml.p, .int .i64 s.ml.n, .int .i64 s.bo, .int .i64 s.pa, .int .i64 s.wh, .int .i64 s.al, .int .i64 s.lh, .int .i64 s.ri, .int .i64 s.dn]) 26)).alloc (.cells (#[.int .i64 l, .int .i64 x, .int .i64 r]) 30)).heap[w.heap.size]? = some (.cells (stCells s) 26 (0, 0)) := heap_in (heap_at _ _ _ rfl)
  have l1 : ((w.alloc (.cells (#[.int .i64 s.sh, .int .i64 s.fl, .int .i64 s.cl, .bool s.w.a, .bool s.w.p, .int .i64 s.w.n, .bool s.h.a, .bool s.h.p, .int .i64 s.h.n, .int .i64 s.mn, .int .i64 s.mx, .int .i64 s.mt, .bool s.mr.a, .bool s.mr.p, .int .i64 s.mr.n, .int .i64 s.mb, .bool s.ml.a, .bool s.ml.p, .int .i64 s.ml.n, .int .i64 s.bo, .int .i64 s.pa, .int .i64 s.wh, .int .i64 s.al, .int .i64 s.lh, .int .i64 s.ri, .int .i64 s.dn]) 26)).alloc (.cells (#[.int .i64 l, .int .i64 x, .int .i64 r]) 30)).heap[w.heap.size + 1]? = some (.cells (#[.int .i64 l, .int .i64 x, .int .i64 r]) 30 (0, 0)) := heap_at _ _ _ (by simp)
  have bel : Below w.heap.size w ((w.alloc (.cells (#[.int .i64 s.sh, .int .i64 s.fl, .int .i64 s.cl, .bool s.w.a, .bool s.w.p, .int .i64 s.w.n, .bool s.h.a, .bool s.h.p, .int .i64 s.h.n, .int .i64 s.mn, .int .i64 s.mx, .int .i64 s.mt, .bool s.mr.a, .bool s.mr.p, .int .i64 s.mr.n, .int .i64 s.mb, .bool s.ml.a, .bool s.ml.p, .int .i64 s.ml.n, .int .i64 s.bo, .int .i64 s.pa, .int .i64 s.wh, .int .i64 s.al, .int .i64 s.lh, .int .i64 s.ri, .int .i64 s.dn]) 26)).alloc (.cells (#[.int .i64 l, .int .i64 x, .int .i64 r]) 30)) := ((Below.refl _ _).alloc (Nat.le_refl _) _).alloc (by simp) _
  have lte : 0 < w.heap.size := World.block_lt_of_cell? _ ⟨0, 0, none⟩ he
  have GS := implGoodStyle_any s ((w.alloc (.cells (#[.int .i64 s.sh, .int .i64 s.fl, .int .i64 s.cl, .bool s.w.a, .bool s.w.p, .int .i64 s.w.n, .bool s.h.a, .bool s.h.p, .int .i64 s.h.n, .int .i64 s.mn, .int .i64 s.mx, .int .i64 s.mt, .bool s.mr.a, .bool s.mr.p, .int .i64 s.mr.n, .int .i64 s.mb, .bool s.ml.a, .bool s.ml.p, .int .i64 s.ml.n, .int .i64 s.bo, .int .i64 s.pa, .int .i64 s.wh, .int .i64 s.al, .int .i64 s.lh, .int .i64 s.ri, .int .i64 s.dn]) 26)).alloc (.cells (#[.int .i64 l, .int .i64 x, .int .i64 r]) 30)) et ev ((bel.cell (p := ⟨0, 0, none⟩) lte).trans he)
  have EX := fun w => isExtent_any b w
  have GL := fun w => implLen_any l w
  have GX := fun w => implLen_any x w
  have GR := fun w => implLen_any r w
  clear he
  have HK : Hid (okR s b l x r = false) := by show _ = _; unfold okR; rw [hs, h1, h2, h3]; rfl
  rw [hs] at GS
  rw [h1] at EX
  rw [h2] at GL
  rw [h3] at GX
  clear hs h1 h2 h3
  go_enter Tryd.func7, Tryd.ntmps7
  go_wp2_with ((with_reducible show wpList _ _ _ (⟨some 8, Op.load 26 _, _, _, _, _⟩ :: _) _ _); refine wpList_load_row rfl 26 _ rfl (w.heap.size) rfl _ (stCells s) _ _ l0 Tryd.underlying26 rfl (by kernel_rfl) ?_)
  refine GS.mono ?_
  rintro e w1 ⟨rfl, hb⟩
  replace bel := bel.trans (hb.mono bel.size)
  replace l0 := below_lies hb l0 (lies_lt l0)
  replace l1 := below_lies hb l1 (lies_lt l1)
  clear hb
  have d0 : w1.cell? ⟨w.heap.size + 1, 0, none⟩ = some (.int .i64 l) := (lies_cell l1 0).trans rfl
  have d1 : w1.cell? ⟨w.heap.size + 1, 1, none⟩ = some (.int .i64 x) := (lies_cell l1 1).trans rfl
  have d2 : w1.cell? ⟨w.heap.size + 1, 2, none⟩ = some (.int .i64 r) := (lies_cell l1 2).trans rfl
  go_wp2_with (first | (go_at_call 22; refine (EX _).mono ?_; rintro e w' ⟨rfl, hw⟩; have hw := hw.symm; subst hw) | (go_at_call 23; refine (GL _).mono ?_; rintro e w' ⟨rfl, hw⟩; have hw := hw.symm; subst hw) | (go_at_call 23; refine (GX _).mono ?_; rintro e w' ⟨rfl, hw⟩; have hw := hw.symm; subst hw) | (go_at_call 23; refine (GR _).mono ?_; rintro e w' ⟨rfl, hw⟩; have hw := hw.symm; subst hw))
  go_ret2
  exact ⟨congrArg Ending.returned (rs_no HK.out), bel⟩
set_option maxRecDepth 100000 in
set_option maxHeartbeats 4000000 in
theorem rest_r (s : St) (b l x r : Int) (w : World) (et : TypeId) (ev : Value) (he : w.cell? ⟨0, 0, none⟩ = some (.iface et ev)) (hs : styleB s = true) (h1 : inB 0 1000000 b = true) (h2 : inB (-1000000) 1000000 l = true) (h3 : inB (-1000000) 1000000 x = true) (h4 : inB (-1000000) 1000000 r = false) :
    Calls Tryd.prog 7 #[.agg #[.int .i64 s.sh, .int .i64 s.fl, .int .i64 s.cl, .bool s.w.a, .bool s.w.p, .int .i64 s.w.n, .bool s.h.a, .bool s.h.p, .int .i64 s.h.n, .int .i64 s.mn, .int .i64 s.mx, .int .i64 s.mt, .bool s.mr.a, .bool s.mr.p, .int .i64 s.mr.n, .int .i64 s.mb, .bool s.ml.a, .bool s.ml.p, .int .i64 s.ml.n, .int .i64 s.bo, .int .i64 s.pa, .int .i64 s.wh, .int .i64 s.al, .int .i64 s.lh, .int .i64 s.ri, .int .i64 s.dn], .int .i64 b, .agg (#[.int .i64 l, .int .i64 x, .int .i64 r])] w fun e w' => e = .returned (rsV s b l x r) ∧ Below w.heap.size w w' := by
  have l0 : ((w.alloc (.cells (#[.int .i64 s.sh, .int .i64 s.fl, .int .i64 s.cl, .bool s.w.a, .bool s.w.p, .int .i64 s.w.n, .bool s.h.a, .bool s.h.p, .int .i64 s.h.n, .int .i64 s.mn, .int .i64 s.mx, .int .i64 s.mt, .bool s.mr.a, .bool s.mr.p, .int .i64 s.mr.n, .int .i64 s.mb, .bool s.ml.a, .bool s.ml.p, .int .i64 s.ml.n, .int .i64 s.bo, .int .i64 s.pa, .int .i64 s.wh, .int .i64 s.al, .int .i64 s.lh, .int .i64 s.ri, .int .i64 s.dn]) 26)).alloc (.cells (#[.int .i64 l, .int .i64 x, .int .i64 r]) 30)).heap[w.heap.size]? = some (.cells (stCells s) 26 (0, 0)) := heap_in (heap_at _ _ _ rfl)
  have l1 : ((w.alloc (.cells (#[.int .i64 s.sh, .int .i64 s.fl, .int .i64 s.cl, .bool s.w.a, .bool s.w.p, .int .i64 s.w.n, .bool s.h.a, .bool s.h.p, .int .i64 s.h.n, .int .i64 s.mn, .int .i64 s.mx, .int .i64 s.mt, .bool s.mr.a, .bool s.mr.p, .int .i64 s.mr.n, .int .i64 s.mb, .bool s.ml.a, .bool s.ml.p, .int .i64 s.ml.n, .int .i64 s.bo, .int .i64 s.pa, .int .i64 s.wh, .int .i64 s.al, .int .i64 s.lh, .int .i64 s.ri, .int .i64 s.dn]) 26)).alloc (.cells (#[.int .i64 l, .int .i64 x, .int .i64 r]) 30)).heap[w.heap.size + 1]? = some (.cells (#[.int .i64 l, .int .i64 x, .int .i64 r]) 30 (0, 0)) := heap_at _ _ _ (by simp)
  have bel : Below w.heap.size w ((w.alloc (.cells (#[.int .i64 s.sh, .int .i64 s.fl, .int .i64 s.cl, .bool s.w.a, .bool s.w.p, .int .i64 s.w.n, .bool s.h.a, .bool s.h.p, .int .i64 s.h.n, .int .i64 s.mn, .int .i64 s.mx, .int .i64 s.mt, .bool s.mr.a, .bool s.mr.p, .int .i64 s.mr.n, .int .i64 s.mb, .bool s.ml.a, .bool s.ml.p, .int .i64 s.ml.n, .int .i64 s.bo, .int .i64 s.pa, .int .i64 s.wh, .int .i64 s.al, .int .i64 s.lh, .int .i64 s.ri, .int .i64 s.dn]) 26)).alloc (.cells (#[.int .i64 l, .int .i64 x, .int .i64 r]) 30)) := ((Below.refl _ _).alloc (Nat.le_refl _) _).alloc (by simp) _
  have lte : 0 < w.heap.size := World.block_lt_of_cell? _ ⟨0, 0, none⟩ he
  have GS := implGoodStyle_any s ((w.alloc (.cells (#[.int .i64 s.sh, .int .i64 s.fl, .int .i64 s.cl, .bool s.w.a, .bool s.w.p, .int .i64 s.w.n, .bool s.h.a, .bool s.h.p, .int .i64 s.h.n, .int .i64 s.mn, .int .i64 s.mx, .int .i64 s.mt, .bool s.mr.a, .bool s.mr.p, .int .i64 s.mr.n, .int .i64 s.mb, .bool s.ml.a, .bool s.ml.p, .int .i64 s.ml.n, .int .i64 s.bo, .int .i64 s.pa, .int .i64 s.wh, .int .i64 s.al, .int .i64 s.lh, .int .i64 s.ri, .int .i64 s.dn]) 26)).alloc (.cells (#[.int .i64 l, .int .i64 x, .int .i64 r]) 30)) et ev ((bel.cell (p := ⟨0, 0, none⟩) lte).trans he)
  have EX := fun w => isExtent_any b w
  have GL := fun w => implLen_any l w
  have GX := fun w => implLen_any x w
  have GR := fun w => implLen_any r w
  clear he
  have HK : Hid (okR s b l x r = false) := by show _ = _; unfold okR; rw [hs, h1, h2, h3, h4]; rfl
  rw [hs] at GS
  rw [h1] at EX
  rw [h2] at GL
  rw [h3] at GX
  rw [h4] at GR
  clear hs h1 h2 h3 h4
  go_enter Tryd.func7, Tryd.ntmps7
  go_wp2_with ((with_reducible show wpList _ _ _ (⟨some 8, Op.load 26 _, _, _, _, _⟩ :: _) _ _); refine wpList_load_row rfl 26 _ rfl (w.heap.size) rfl _ (stCells s) _ _ l0 Tryd.underlying26 rfl (by kernel_rfl) ?_)
  refine GS.mono ?_
  rintro e w1 ⟨rfl, hb⟩
  replace bel := bel.trans (hb.mono bel.size)
  replace l0 := below_lies hb l0 (lies_lt l0)
  replace l1 := below_lies hb l1 (lies_lt l1)
  clear hb
  have d0 : w1.cell? ⟨w.heap.size + 1, 0, none⟩ = some (.int .i64 l) := (lies_cell l1 0).trans rfl
  have d1 : w1.cell? ⟨w.heap.size + 1, 1, none⟩ = some (.int .i64 x) := (lies_cell l1 1).trans rfl
  have d2 : w1.cell? ⟨w.heap.size + 1, 2, none⟩ = some (.int .i64 r) := (lies_cell l1 2).trans rfl
  go_wp2_with (first | (go_at_call 22; refine (EX _).mono ?_; rintro e w' ⟨rfl, hw⟩; have hw := hw.symm; subst hw) | (go_at_call 23; refine (GL _).mono ?_; rintro e w' ⟨rfl, hw⟩; have hw := hw.symm; subst hw) | (go_at_call 23; refine (GX _).mono ?_; rintro e w' ⟨rfl, hw⟩; have hw := hw.symm; subst hw) | (go_at_call 23; refine (GR _).mono ?_; rintro e w' ⟨rfl, hw⟩; have hw := hw.symm; subst hw))
  go_ret2
  exact ⟨congrArg Ending.returned (rs_no HK.out), bel⟩
set_option maxRecDepth 100000 in
set_option maxHeartbeats 4000000 in
theorem rest_y (s : St) (b l x r : Int) (w : World) (et : TypeId) (ev : Value) (he : w.cell? ⟨0, 0, none⟩ = some (.iface et ev)) (hs : styleB s = true) (h1 : inB 0 1000000 b = true) (h2 : inB (-1000000) 1000000 l = true) (h3 : inB (-1000000) 1000000 x = true) (h4 : inB (-1000000) 1000000 r = true) :
    Calls Tryd.prog 7 #[.agg #[.int .i64 s.sh, .int .i64 s.fl, .int .i64 s.cl, .bool s.w.a, .bool s.w.p, .int .i64 s.w.n, .bool s.h.a, .bool s.h.p, .int .i64 s.h.n, .int .i64 s.mn, .int .i64 s.mx, .int .i64 s.mt, .bool s.mr.a, .bool s.mr.p, .int .i64 s.mr.n, .int .i64 s.mb, .bool s.ml.a, .bool s.ml.p, .int .i64 s.ml.n, .int .i64 s.bo, .int .i64 s.pa, .int .i64 s.wh, .int .i64 s.al, .int .i64 s.lh, .int .i64 s.ri, .int .i64 s.dn], .int .i64 b, .agg (#[.int .i64 l, .int .i64 x, .int .i64 r])] w fun e w' => e = .returned (rsV s b l x r) ∧ Below w.heap.size w w' := by
  have l0 : ((w.alloc (.cells (#[.int .i64 s.sh, .int .i64 s.fl, .int .i64 s.cl, .bool s.w.a, .bool s.w.p, .int .i64 s.w.n, .bool s.h.a, .bool s.h.p, .int .i64 s.h.n, .int .i64 s.mn, .int .i64 s.mx, .int .i64 s.mt, .bool s.mr.a, .bool s.mr.p, .int .i64 s.mr.n, .int .i64 s.mb, .bool s.ml.a, .bool s.ml.p, .int .i64 s.ml.n, .int .i64 s.bo, .int .i64 s.pa, .int .i64 s.wh, .int .i64 s.al, .int .i64 s.lh, .int .i64 s.ri, .int .i64 s.dn]) 26)).alloc (.cells (#[.int .i64 l, .int .i64 x, .int .i64 r]) 30)).heap[w.heap.size]? = some (.cells (stCells s) 26 (0, 0)) := heap_in (heap_at _ _ _ rfl)
  have l1 : ((w.alloc (.cells (#[.int .i64 s.sh, .int .i64 s.fl, .int .i64 s.cl, .bool s.w.a, .bool s.w.p, .int .i64 s.w.n, .bool s.h.a, .bool s.h.p, .int .i64 s.h.n, .int .i64 s.mn, .int .i64 s.mx, .int .i64 s.mt, .bool s.mr.a, .bool s.mr.p, .int .i64 s.mr.n, .int .i64 s.mb, .bool s.ml.a, .bool s.ml.p, .int .i64 s.ml.n, .int .i64 s.bo, .int .i64 s.pa, .int .i64 s.wh, .int .i64 s.al, .int .i64 s.lh, .int .i64 s.ri, .int .i64 s.dn]) 26)).alloc (.cells (#[.int .i64 l, .int .i64 x, .int .i64 r]) 30)).heap[w.heap.size + 1]? = some (.cells (#[.int .i64 l, .int .i64 x, .int .i64 r]) 30 (0, 0)) := heap_at _ _ _ (by simp)
  have bel : Below w.heap.size w ((w.alloc (.cells (#[.int .i64 s.sh, .int .i64 s.fl, .int .i64 s.cl, .bool s.w.a, .bool s.w.p, .int .i64 s.w.n, .bool s.h.a, .bool s.h.p, .int .i64 s.h.n, .int .i64 s.mn, .int .i64 s.mx, .int .i64 s.mt, .bool s.mr.a, .bool s.mr.p, .int .i64 s.mr.n, .int .i64 s.mb, .bool s.ml.a, .bool s.ml.p, .int .i64 s.ml.n, .int .i64 s.bo, .int .i64 s.pa, .int .i64 s.wh, .int .i64 s.al, .int .i64 s.lh, .int .i64 s.ri, .int .i64 s.dn]) 26)).alloc (.cells (#[.int .i64 l, .int .i64 x, .int .i64 r]) 30)) := ((Below.refl _ _).alloc (Nat.le_refl _) _).alloc (by simp) _
  have lte : 0 < w.heap.size := World.block_lt_of_cell? _ ⟨0, 0, none⟩ he
  have GS := implGoodStyle_any s ((w.alloc (.cells (#[.int .i64 s.sh, .int .i64 s.fl, .int .i64 s.cl, .bool s.w.a, .bool s.w.p, .int .i64 s.w.n, .bool s.h.a, .bool s.h.p, .int .i64 s.h.n, .int .i64 s.mn, .int .i64 s.mx, .int .i64 s.mt, .bool s.mr.a, .bool s.mr.p, .int .i64 s.mr.n, .int .i64 s.mb, .bool s.ml.a, .bool s.ml.p, .int .i64 s.ml.n, .int .i64 s.bo, .int .i64 s.pa, .int .i64 s.wh, .int .i64 s.al, .int .i64 s.lh, .int .i64 s.ri, .int .i64 s.dn]) 26)).alloc (.cells (#[.int .i64 l, .int .i64 x, .int .i64 r]) 30)) et ev ((bel.cell (p := ⟨0, 0, none⟩) lte).trans he)
  have EX := fun w => isExtent_any b w
  have GL := fun w => implLen_any l w
  have GX := fun w => implLen_any x w
  have GR := fun w => implLen_any r w
  clear he
  have hb1 := inB_yes h1
  have hl1 := inB_yes h2
  have hx1 := inB_yes h3
  have hr1 := inB_yes h4
  have RM := fun w => room_any s b l x r w hs hb1.1 hb1.2 hl1.1 hl1.2 hr1.1 hr1.2
  obtain ⟨e1, e2⟩ := eg_bd hs
  obtain ⟨rm, hrm⟩ : ∃ rm, rm = b - eg s - l - r := ⟨_, rfl⟩
  have rm1 : -10000000 ≤ rm := by omega
  have rm2 : rm ≤ 10000000 := by omega
  have HK : Hid (okR s b l x r = true ∧ rm - x = b - eg s - l - x - r) := by show _ ∧ _; exact ⟨by unfold okR; rw [hs, h1, h2, h3, h4]; rfl, by omega⟩
  rw [← hrm] at RM
  rw [hs] at GS
  rw [h1] at EX
  rw [h2] at GL
  rw [h3] at GX
  rw [h4] at GR
  obtain ⟨x1, x2⟩ := hx1
  clear hs h1 h2 h3 h4 hrm hb1 hl1 hr1 e1 e2
  go_enter Tryd.func7, Tryd.ntmps7
  go_wp2_with ((with_reducible show wpList _ _ _ (⟨some 8, Op.load 26 _, _, _, _, _⟩ :: _) _ _); refine wpList_load_row rfl 26 _ rfl (w.heap.size) rfl _ (stCells s) _ _ l0 Tryd.underlying26 rfl (by kernel_rfl) ?_)
  refine GS.mono ?_
  rintro e w1 ⟨rfl, hb⟩
  replace bel := bel.trans (hb.mono bel.size)
  replace l0 := below_lies hb l0 (lies_lt l0)
  replace l1 := below_lies hb l1 (lies_lt l1)
  clear hb
  have d0 : w1.cell? ⟨w.heap.size + 1, 0, none⟩ = some (.int .i64 l) := (lies_cell l1 0).trans rfl
  have d1 : w1.cell? ⟨w.heap.size + 1, 1, none⟩ = some (.int .i64 x) := (lies_cell l1 1).trans rfl
  have d2 : w1.cell? ⟨w.heap.size + 1, 2, none⟩ = some (.int .i64 r) := (lies_cell l1 2).trans rfl
  go_wp2_with (first | (go_at_call 22; refine (EX _).mono ?_; rintro e w' ⟨rfl, hw⟩; have hw := hw.symm; subst hw) | (go_at_call 23; refine (GL _).mono ?_; rintro e w' ⟨rfl, hw⟩; have hw := hw.symm; subst hw) | (go_at_call 23; refine (GX _).mono ?_; rintro e w' ⟨rfl, hw⟩; have hw := hw.symm; subst hw) | (go_at_call 23; refine (GR _).mono ?_; rintro e w' ⟨rfl, hw⟩; have hw := hw.symm; subst hw))
  have hS : Sx s w.heap.size l x r w1 := ⟨l0, l1⟩
  clear d0 d1 d2 GL GX GR EX GS
  refine wp_region_held_drew (S := Sx s w.heap.size l x r) (by kernel_rfl) hS (fun hHeld => ?_)
  refine wpAnyH_take (i := 0) (oi := { dst := some 32, op := Op.load 26 (Operand.tmp 3), type := 26, pos := "l6_width.go:56", after := #[], guard := none }) (v := .agg ((stCells s).toList).toArray) rfl (by kernel_rfl) (by kernel_rfl) (by kernel_rfl) (fun _ _ _ h => h) (yieldsIf_load_mid (by rfl) 26 _ rfl (w.heap.size) 0 rfl ((stCells s).toList) _ (fun wz hw => range_lies hw.1) Tryd.underlying26 rfl (by kernel_rfl)) hHeld ?_
  simp only [Act.put, List.setIfInBounds_toArray, List.set_cons_zero, List.set_cons_succ]
  refine wpAnyH_take (i := 1) (oi := { dst := some 33, op := Op.move (Operand.tmp 1), type := 3, pos := "l6_width.go:56", after := #[], guard := none }) (v := .int .i64 b) rfl (by kernel_rfl) (by kernel_rfl) (by kernel_rfl) (fun _ _ _ h => h) (Or.inl ⟨by rfl, by intro w hSw; go_simp⟩) hHeld ?_
  simp only [Act.put, List.setIfInBounds_toArray, List.set_cons_zero, List.set_cons_succ]
  refine wpAnyH_take (i := 2) (oi := { dst := some 34, op := Op.load 30 (Operand.tmp 5), type := 30, pos := "l6_width.go:56", after := #[], guard := none }) (v := .agg ([.int .i64 l, .int .i64 x, .int .i64 r]).toArray) rfl (by kernel_rfl) (by kernel_rfl) (by kernel_rfl) (fun _ _ _ h => h) (yieldsIf_load_mid (by rfl) 30 _ rfl (w.heap.size + 1) 0 rfl ([.int .i64 l, .int .i64 x, .int .i64 r]) _ (fun wz hw => range_lies hw.2) Tryd.underlying30 rfl (by kernel_rfl)) hHeld ?_
  simp only [Act.put, List.setIfInBounds_toArray, List.set_cons_zero, List.set_cons_succ]
  refine wpAnyH_take (i := 4) (oi := { dst := some 36, op := Op.fieldAddr 30 (Operand.tmp 5) 1, type := 0, pos := "l6_width.go:56", after := #[], guard := none }) (v := .pointer (some ⟨w.heap.size + 1, 1, none⟩)) rfl (by kernel_rfl) (by kernel_rfl) (by kernel_rfl) (fun _ _ _ h => h) (Or.inl ⟨by rfl, by intro w hSw; go_simp⟩) hHeld ?_
  simp only [Act.put, List.setIfInBounds_toArray, List.set_cons_zero, List.set_cons_succ]
  refine wpAnyH_take (i := 5) (oi := { dst := some 37, op := Op.load 3 (Operand.tmp 36), type := 3, pos := "l6_width.go:56", after := #[⟨4, Ground.data⟩], guard := none }) (v := .int .i64 x) rfl (by kernel_rfl) (by kernel_rfl) (by kernel_rfl) (fun _ _ _ h => h) (Or.inl ⟨by rfl, by intro wz hSw; have hq : wz.cell? ⟨w.heap.size + 1, 1, none⟩ = some (.int .i64 x) := (lies_cell hSw.2 1).trans rfl; clear hSw; go_simp⟩) hHeld ?_
  simp only [Act.put, List.setIfInBounds_toArray, List.set_cons_zero, List.set_cons_succ]
  refine wpAnyH_ready (rs := [3]) (by kernel_rfl) (by simp) ?_
  refine AllReadyH.cons (o := { dst := some 35, op := Op.call { callee := Callee.value (Operand.func 13), args := #[Operand.tmp 32, Operand.tmp 33, Operand.tmp 34], argTypes := #[26, 3, 30] }, type := 3, pos := "l6_width.go:56", after := #[⟨0, Ground.data⟩, ⟨1, Ground.data⟩, ⟨2, Ground.data⟩], guard := none }) rfl (fun K hK => ?_) AllReadyH.nil
  go_simp
  refine (RM _).mono ?_
  rintro e w2 ⟨rfl, hb⟩
  have hx2 : Sx s w.heap.size l x r w2 := ⟨below_lies hb hHeld.1 (lies_lt hHeld.1), below_lies hb hHeld.2 (lies_lt hHeld.2)⟩
  go_wp2_with fail
  refine hK.out _ _ hx2 (fun hHeld2 => ?_)
  clear hK K
  try simp only [Act.put, List.setIfInBounds_toArray, List.set_cons_zero, List.set_cons_succ]
  refine wpAnyH_take (i := 6) (oi := { dst := some 38, op := Op.binOp BinOp.sub 3 (Operand.tmp 35) (Operand.tmp 37) 3, type := 3, pos := "l6_width.go:56", after := #[⟨3, Ground.data⟩, ⟨5, Ground.data⟩], guard := none }) (v := .int .i64 (rm - x)) rfl (by kernel_rfl) (by kernel_rfl) (by kernel_rfl) (fun _ _ _ h => h) (Or.inl ⟨by rfl, by intro wz hSw; go_simp; exact wrap6 (by omega) (by omega)⟩) hHeld2 ?_
  simp only [Act.put, List.setIfInBounds_toArray, List.set_cons_zero, List.set_cons_succ]
  refine wpAnyH_take (i := 7) (oi := { dst := some 6, op := Op.assign (Operand.tmp 38), type := 3, pos := "l6_width.go:56", after := #[⟨6, Ground.data⟩, ⟨3, Ground.chain⟩, ⟨0, Ground.phase⟩, ⟨1, Ground.phase⟩, ⟨2, Ground.phase⟩, ⟨3, Ground.phase⟩, ⟨4, Ground.phase⟩, ⟨5, Ground.phase⟩, ⟨6, Ground.phase⟩], guard := none }) (v := .int .i64 (rm - x)) rfl (by kernel_rfl) (by kernel_rfl) (by kernel_rfl) (fun _ _ _ h => h) (Or.inl ⟨by rfl, by intro w hSw; go_simp⟩) hHeld2 ?_
  simp only [Act.put, List.setIfInBounds_toArray, List.set_cons_zero, List.set_cons_succ]
  refine wpAnyH_take (i := 8) (oi := { dst := some 7, op := Op.assign (Operand.const (Value.bool true)), type := 4, pos := "l6_width.go:56", after := #[⟨7, Ground.chain⟩, ⟨0, Ground.phase⟩, ⟨1, Ground.phase⟩, ⟨2, Ground.phase⟩, ⟨3, Ground.phase⟩, ⟨4, Ground.phase⟩, ⟨5, Ground.phase⟩, ⟨6, Ground.phase⟩, ⟨7, Ground.phase⟩], guard := none }) (v := Value.bool true) rfl (by kernel_rfl) (by kernel_rfl) (by kernel_rfl) (fun _ _ _ h => h) (Or.inl ⟨by rfl, by intro w hSw; go_simp⟩) hHeld2 ?_
  simp only [Act.put, List.setIfInBounds_toArray, List.set_cons_zero, List.set_cons_succ]
  refine wpAnyH_done (by kernel_rfl) ?_ _
  replace bel : Below w.heap.size w w2 := bel.trans (Below.mono (B := w1.heap.size) ⟨hb.os, hb.tape, hb.output, hb.size, hb.block⟩ bel.size)
  clear hb hHeld hHeld2 hx2 hS RM l0 l1
  go_wp2
  go_ret2
  exact ⟨congrArg Ending.returned (rs_yes HK.out.1 HK.out.2), bel⟩
theorem implRest_any (s : St) (b l x r : Int) (w : World) (et : TypeId) (ev : Value) (he : w.cell? ⟨0, 0, none⟩ = some (.iface et ev)) :
    Calls Tryd.prog 7 #[.agg #[.int .i64 s.sh, .int .i64 s.fl, .int .i64 s.cl, .bool s.w.a, .bool s.w.p, .int .i64 s.w.n, .bool s.h.a, .bool s.h.p, .int .i64 s.h.n, .int .i64 s.mn, .int .i64 s.mx, .int .i64 s.mt, .bool s.mr.a, .bool s.mr.p, .int .i64 s.mr.n, .int .i64 s.mb, .bool s.ml.a, .bool s.ml.p, .int .i64 s.ml.n, .int .i64 s.bo, .int .i64 s.pa, .int .i64 s.wh, .int .i64 s.al, .int .i64 s.lh, .int .i64 s.ri, .int .i64 s.dn], .int .i64 b, .agg (#[.int .i64 l, .int .i64 x, .int .i64 r])] w fun e w' => e = .returned (rsV s b l x r) ∧ Below w.heap.size w w' := by
  cases hs : styleB s
  · exact rest_s s b l x r w et ev he hs
  cases h1 : inB 0 1000000 b
  · exact rest_b s b l x r w et ev he hs h1
  cases h2 : inB (-1000000) 1000000 l
  · exact rest_l s b l x r w et ev he hs h1 h2
  cases h3 : inB (-1000000) 1000000 x
  · exact rest_x s b l x r w et ev he hs h1 h2 h3
  cases h4 : inB (-1000000) 1000000 r
  · exact rest_r s b l x r w et ev he hs h1 h2 h3 h4
  exact rest_y s b l x r w et ev he hs h1 h2 h3 h4
end Go.Proofs.YtojdmcennpgndaaDoor
