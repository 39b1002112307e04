/-
  The program's toldAcross: the sizes that a style gives across.
-/
import Derived.Test.YtojdmcennpgndaaDoorWdJ
namespace Go.Proofs.YtojdmcennpgndaaDoor
open Go.ChangeShapes Go.WideShapes Go.ChangeAt Go.RowKit
set_option linter.unusedVariables false

theorem son_eq {p : Bool} {n b : Int} (hz : szB false p n = true) (hb : inB 0 1000000 b = true) : sinV false p n b = told6 (szN p n b) := by
  have e : sinB false p n b = inB (-1000000) 1000000 (szN p n b) := by simp [sinB, hz, hb]
  simp [sinV, sinN, told6, told6N, e]
theorem sizeOr_any (a p : Bool) (n b : Int) (w : World) (hz : szB a p n = true) (hb : inB 0 1000000 b = true) :
    Calls Tryd.prog 27 #[.agg #[.bool a, .bool p, .int .i64 n], .int .i64 b] w fun e w' => e = .returned (told6 (szN p n b)) ∧ Below w.heap.size w w' := by
  cases a
  · have T := fun w => implSize_any false p n b w
    rw [son_eq hz hb] at T
    obtain ⟨x, y, hv⟩ : ∃ x y, told6 (szN p n b) = .tuple #[.int .i64 x, .bool y] := ⟨_, _, rfl⟩
    rw [hv] at T ⊢
    clear hz hb hv
    go_enter Tryd.func27, Tryd.ntmps27
    go_wp2_with fail
    refine (T _).mono ?_
    rintro e w1 ⟨rfl, hb1⟩
    go_wp2
    go_ret2
    exact ⟨rfl, ((Below.refl _ _).alloc (Nat.le_refl _) _).trans (hb1.mono (by simp))⟩
  · have HT : Hid (Value.tuple #[.int .i64 0, .bool true] = told6 (szN p n b)) := by show _ = _; rw [szN_au hz]; rfl
    clear hz hb
    go_enter Tryd.func27, Tryd.ntmps27
    go_wp2
    go_ret2
    exact ⟨congrArg Ending.returned HT.out, (Below.refl _ _).alloc (Nat.le_refl _) _⟩

set_option maxRecDepth 100000 in
set_option maxHeartbeats 4000000 in
theorem told_bad (s : St) (b : Int) (w : World) (et : TypeId) (ev : Value) (he : w.cell? ⟨0, 0, none⟩ = some (.iface et ev)) (hs : (styleB s && inB 0 1000000 b) = false) :
    Calls Tryd.prog 12 #[.agg #[.int .i64 s.sh, .int .i64 s.fl, .int .i64 s.cl, .bool s.w.a, .bool s.w.p, .int .i64 s.w.n, .bool s.h.a, .bool s.h.p, .int .i64 s.h.n, .int .i64 s.mn, .int .i64 s.mx, .int .i64 s.mt, .bool s.mr.a, .bool s.mr.p, .int .i64 s.mr.n, .int .i64 s.mb, .bool s.ml.a, .bool s.ml.p, .int .i64 s.ml.n, .int .i64 s.bo, .int .i64 s.pa, .int .i64 s.wh, .int .i64 s.al, .int .i64 s.lh, .int .i64 s.ri, .int .i64 s.dn], .int .i64 b] w fun e w' => e = .returned (.tuple #[.agg (#[.int .i64 0, .int .i64 0, .int .i64 0]), .bool false]) ∧ Below w.heap.size w w' := by
  have l0 : ((w.alloc (.cells (#[.int .i64 s.sh, .int .i64 s.fl, .int .i64 s.cl, .bool s.w.a, .bool s.w.p, .int .i64 s.w.n, .bool s.h.a, .bool s.h.p, .int .i64 s.h.n, .int .i64 s.mn, .int .i64 s.mx, .int .i64 s.mt, .bool s.mr.a, .bool s.mr.p, .int .i64 s.mr.n, .int .i64 s.mb, .bool s.ml.a, .bool s.ml.p, .int .i64 s.ml.n, .int .i64 s.bo, .int .i64 s.pa, .int .i64 s.wh, .int .i64 s.al, .int .i64 s.lh, .int .i64 s.ri, .int .i64 s.dn]) 26)).alloc (.cells (#[.int .i64 0, .int .i64 0, .int .i64 0]) 30)).heap[w.heap.size]? = some (.cells (stCells s) 26 (0, 0)) := heap_in (heap_at _ _ _ rfl)
  have l1 : ((w.alloc (.cells (#[.int .i64 s.sh, .int .i64 s.fl, .int .i64 s.cl, .bool s.w.a, .bool s.w.p, .int .i64 s.w.n, .bool s.h.a, .bool s.h.p, .int .i64 s.h.n, .int .i64 s.mn, .int .i64 s.mx, .int .i64 s.mt, .bool s.mr.a, .bool s.mr.p, .int .i64 s.mr.n, .int .i64 s.mb, .bool s.ml.a, .bool s.ml.p, .int .i64 s.ml.n, .int .i64 s.bo, .int .i64 s.pa, .int .i64 s.wh, .int .i64 s.al, .int .i64 s.lh, .int .i64 s.ri, .int .i64 s.dn]) 26)).alloc (.cells (#[.int .i64 0, .int .i64 0, .int .i64 0]) 30)).heap[w.heap.size + 1]? = some (.cells (#[.int .i64 0, .int .i64 0, .int .i64 0]) 30 (0, 0)) := heap_at _ _ _ (by simp)
  have bel : Below w.heap.size w ((w.alloc (.cells (#[.int .i64 s.sh, .int .i64 s.fl, .int .i64 s.cl, .bool s.w.a, .bool s.w.p, .int .i64 s.w.n, .bool s.h.a, .bool s.h.p, .int .i64 s.h.n, .int .i64 s.mn, .int .i64 s.mx, .int .i64 s.mt, .bool s.mr.a, .bool s.mr.p, .int .i64 s.mr.n, .int .i64 s.mb, .bool s.ml.a, .bool s.ml.p, .int .i64 s.ml.n, .int .i64 s.bo, .int .i64 s.pa, .int .i64 s.wh, .int .i64 s.al, .int .i64 s.lh, .int .i64 s.ri, .int .i64 s.dn]) 26)).alloc (.cells (#[.int .i64 0, .int .i64 0, .int .i64 0]) 30)) := ((Below.refl _ _).alloc (Nat.le_refl _) _).alloc (by simp) _
  have lte : 0 < w.heap.size := World.block_lt_of_cell? _ ⟨0, 0, none⟩ he
  have GS := implGoodStyle_any s ((w.alloc (.cells (#[.int .i64 s.sh, .int .i64 s.fl, .int .i64 s.cl, .bool s.w.a, .bool s.w.p, .int .i64 s.w.n, .bool s.h.a, .bool s.h.p, .int .i64 s.h.n, .int .i64 s.mn, .int .i64 s.mx, .int .i64 s.mt, .bool s.mr.a, .bool s.mr.p, .int .i64 s.mr.n, .int .i64 s.mb, .bool s.ml.a, .bool s.ml.p, .int .i64 s.ml.n, .int .i64 s.bo, .int .i64 s.pa, .int .i64 s.wh, .int .i64 s.al, .int .i64 s.lh, .int .i64 s.ri, .int .i64 s.dn]) 26)).alloc (.cells (#[.int .i64 0, .int .i64 0, .int .i64 0]) 30)) et ev ((bel.cell (p := ⟨0, 0, none⟩) lte).trans he)
  have EX := fun w => isExtent_any b w
  clear he
  cases hst : styleB s
  · rw [hst] at GS
    clear hs hst
    go_enter Tryd.func12, Tryd.ntmps12
    go_wp2_with ((with_reducible show wpList _ _ _ (⟨some 12, Op.load 26 _, _, _, _, _⟩ :: _) _ _); refine wpList_load_row rfl 26 _ rfl (w.heap.size) rfl _ (stCells s) _ _ l0 Tryd.underlying26 rfl (by kernel_rfl) ?_)
    refine GS.mono ?_
    rintro e w1 ⟨rfl, hb⟩
    replace bel := bel.trans (hb.mono bel.size)
    replace l0 := below_lies hb l0 (lies_lt l0)
    replace l1 := below_lies hb l1 (lies_lt l1)
    clear hb
    go_wp2_with ((with_reducible show wpList _ _ _ (⟨none, Op.store 30 (Operand.tmp 4) (Operand.tmp 20), _, _, _, _⟩ :: _) _ _); refine wpList_putA rfl _ _ _ rfl rfl _ 0 3 [.int .i64 0, .int .i64 0, .int .i64 0] _ _ rfl rfl l1 rfl (by kernel_rfl) (by kernel_rfl) (by kernel_rfl) ?_; intro w9 p9 l9 n9; replace l1 := l9.trans (congrArg (fun c => some (Obj.cells c 30 (0, 0))) (show _ = (#[.int .i64 0, .int .i64 0, .int .i64 0] : Array Value) by kernel_rfl)); replace l0 := p9.lies l0 (by omega); replace bel := p9.below bel (by omega); clear l9 n9 p9)
    exact bodyPost_ret (v := .tuple #[.agg (#[.int .i64 0, .int .i64 0, .int .i64 0]), .bool false]) (results_row_tmp Tryd.results12 _ _ _ _ (#[.int .i64 0, .int .i64 0, .int .i64 0]) _ _ _ rfl l1 Tryd.underlying30 rfl (by kernel_rfl) rfl) rfl ⟨rfl, bel⟩
  · have hb : inB 0 1000000 b = false := by rw [hst] at hs; simpa using hs
    rw [hst] at GS
    rw [hb] at EX
    clear hs hst hb
    go_enter Tryd.func12, Tryd.ntmps12
    go_wp2_with ((with_reducible show wpList _ _ _ (⟨some 12, Op.load 26 _, _, _, _, _⟩ :: _) _ _); refine wpList_load_row rfl 26 _ rfl (w.heap.size) rfl _ (stCells s) _ _ l0 Tryd.underlying26 rfl (by kernel_rfl) ?_)
    refine GS.mono ?_
    rintro e w1 ⟨rfl, hb⟩
    replace bel := bel.trans (hb.mono bel.size)
    replace l0 := below_lies hb l0 (lies_lt l0)
    replace l1 := below_lies hb l1 (lies_lt l1)
    clear hb
    go_wp2_with (first | (go_at_call 22; refine (EX _).mono ?_; rintro e w' ⟨rfl, rfl⟩) | ((with_reducible show wpList _ _ _ (⟨none, Op.store 30 (Operand.tmp 4) (Operand.tmp 20), _, _, _, _⟩ :: _) _ _); refine wpList_putA rfl _ _ _ rfl rfl _ 0 3 [.int .i64 0, .int .i64 0, .int .i64 0] _ _ rfl rfl l1 rfl (by kernel_rfl) (by kernel_rfl) (by kernel_rfl) ?_; intro w9 p9 l9 n9; replace l1 := l9.trans (congrArg (fun c => some (Obj.cells c 30 (0, 0))) (show _ = (#[.int .i64 0, .int .i64 0, .int .i64 0] : Array Value) by kernel_rfl)); replace l0 := p9.lies l0 (by omega); replace bel := p9.below bel (by omega); clear l9 n9 p9))
    exact bodyPost_ret (v := .tuple #[.agg (#[.int .i64 0, .int .i64 0, .int .i64 0]), .bool false]) (results_row_tmp Tryd.results12 _ _ _ _ (#[.int .i64 0, .int .i64 0, .int .i64 0]) _ _ _ rfl l1 Tryd.underlying30 rfl (by kernel_rfl) rfl) rfl ⟨rfl, bel⟩
theorem told6_y {n : Int} (h : inB (-1000000) 1000000 n = true) : told6 n = .tuple #[.int .i64 n, .bool true] := by simp [told6, told6N, h]
theorem told6_n {n : Int} (h : inB (-1000000) 1000000 n = false) : told6 n = .tuple #[.int .i64 0, .bool false] := by simp [told6, told6N, h]
theorem told6_f (n : Int) : ∃ x y, told6 n = .tuple #[.int .i64 x, .bool y] := ⟨_, _, rfl⟩
set_option maxRecDepth 100000 in
set_option maxHeartbeats 4000000 in
theorem told_l (s : St) (b : Int) (w : World) (et : TypeId) (ev : Value) (he : w.cell? ⟨0, 0, none⟩ = some (.iface et ev)) (hs : styleB s = true) (hb0 : inB 0 1000000 b = true) (h1 : inB (-1000000) 1000000 (mlN s b) = false) :
    Calls Tryd.prog 12 #[.agg #[.int .i64 s.sh, .int .i64 s.fl, .int .i64 s.cl, .bool s.w.a, .bool s.w.p, .int .i64 s.w.n, .bool s.h.a, .bool s.h.p, .int .i64 s.h.n, .int .i64 s.mn, .int .i64 s.mx, .int .i64 s.mt, .bool s.mr.a, .bool s.mr.p, .int .i64 s.mr.n, .int .i64 s.mb, .bool s.ml.a, .bool s.ml.p, .int .i64 s.ml.n, .int .i64 s.bo, .int .i64 s.pa, .int .i64 s.wh, .int .i64 s.al, .int .i64 s.lh, .int .i64 s.ri, .int .i64 s.dn], .int .i64 b] w fun e w' => e = .returned (.tuple #[.agg (#[.int .i64 0, .int .i64 0, .int .i64 0]), .bool false]) ∧ Below w.heap.size w w' := by
  have l0 : ((w.alloc (.cells (#[.int .i64 s.sh, .int .i64 s.fl, .int .i64 s.cl, .bool s.w.a, .bool s.w.p, .int .i64 s.w.n, .bool s.h.a, .bool s.h.p, .int .i64 s.h.n, .int .i64 s.mn, .int .i64 s.mx, .int .i64 s.mt, .bool s.mr.a, .bool s.mr.p, .int .i64 s.mr.n, .int .i64 s.mb, .bool s.ml.a, .bool s.ml.p, .int .i64 s.ml.n, .int .i64 s.bo, .int .i64 s.pa, .int .i64 s.wh, .int .i64 s.al, .int .i64 s.lh, .int .i64 s.ri, .int .i64 s.dn]) 26)).alloc (.cells (#[.int .i64 0, .int .i64 0, .int .i64 0]) 30)).heap[w.heap.size]? = some (.cells (stCells s) 26 (0, 0)) := heap_in (heap_at _ _ _ rfl)
  have l1 : ((w.alloc (.cells (#[.int .i64 s.sh, .int .i64 s.fl, .int .i64 s.cl, .bool s.w.a, .bool s.w.p, .int .i64 s.w.n, .bool s.h.a, .bool s.h.p, .int .i64 s.h.n, .int .i64 s.mn, .int .i64 s.mx, .int .i64 s.mt, .bool s.mr.a, .bool s.mr.p, .int .i64 s.mr.n, .int .i64 s.mb, .bool s.ml.a, .bool s.ml.p, .int .i64 s.ml.n, .int .i64 s.bo, .int .i64 s.pa, .int .i64 s.wh, .int .i64 s.al, .int .i64 s.lh, .int .i64 s.ri, .int .i64 s.dn]) 26)).alloc (.cells (#[.int .i64 0, .int .i64 0, .int .i64 0]) 30)).heap[w.heap.size + 1]? = some (.cells (#[.int .i64 0, .int .i64 0, .int .i64 0]) 30 (0, 0)) := heap_at _ _ _ (by simp)
  have bel : Below w.heap.size w ((w.alloc (.cells (#[.int .i64 s.sh, .int .i64 s.fl, .int .i64 s.cl, .bool s.w.a, .bool s.w.p, .int .i64 s.w.n, .bool s.h.a, .bool s.h.p, .int .i64 s.h.n, .int .i64 s.mn, .int .i64 s.mx, .int .i64 s.mt, .bool s.mr.a, .bool s.mr.p, .int .i64 s.mr.n, .int .i64 s.mb, .bool s.ml.a, .bool s.ml.p, .int .i64 s.ml.n, .int .i64 s.bo, .int .i64 s.pa, .int .i64 s.wh, .int .i64 s.al, .int .i64 s.lh, .int .i64 s.ri, .int .i64 s.dn]) 26)).alloc (.cells (#[.int .i64 0, .int .i64 0, .int .i64 0]) 30)) := ((Below.refl _ _).alloc (Nat.le_refl _) _).alloc (by simp) _
  have lte : 0 < w.heap.size := World.block_lt_of_cell? _ ⟨0, 0, none⟩ he
  have GS := implGoodStyle_any s ((w.alloc (.cells (#[.int .i64 s.sh, .int .i64 s.fl, .int .i64 s.cl, .bool s.w.a, .bool s.w.p, .int .i64 s.w.n, .bool s.h.a, .bool s.h.p, .int .i64 s.h.n, .int .i64 s.mn, .int .i64 s.mx, .int .i64 s.mt, .bool s.mr.a, .bool s.mr.p, .int .i64 s.mr.n, .int .i64 s.mb, .bool s.ml.a, .bool s.ml.p, .int .i64 s.ml.n, .int .i64 s.bo, .int .i64 s.pa, .int .i64 s.wh, .int .i64 s.al, .int .i64 s.lh, .int .i64 s.ri, .int .i64 s.dn]) 26)).alloc (.cells (#[.int .i64 0, .int .i64 0, .int .i64 0]) 30)) et ev ((bel.cell (p := ⟨0, 0, none⟩) lte).trans he)
  have EX := fun w => isExtent_any b w
  clear he
  obtain ⟨z1, z2, z3⟩ := style_sz hs
  have L := fun w => sizeOr_any s.ml.a s.ml.p s.ml.n b w z1 hb0
  have M := fun w => sizeOr_any s.mr.a s.mr.p s.mr.n b w z2 hb0
  have D := fun w => sizeOr_any s.w.a s.w.p s.w.n b w z3 hb0
  rw [hs] at GS
  rw [hb0] at EX
  rw [told6_n (show inB (-1000000) 1000000 (szN s.ml.p s.ml.n b) = false from h1)] at L
  obtain ⟨xd, yd, hd⟩ := told6_f (szN s.w.p s.w.n b)
  rw [hd] at D
  clear hd
  obtain ⟨xm, ym, hm⟩ := told6_f (szN s.mr.p s.mr.n b)
  rw [hm] at M
  clear hm
  clear hs hb0 z1 z2 z3 h1
  go_enter Tryd.func12, Tryd.ntmps12
  go_wp2_with ((with_reducible show wpList _ _ _ (⟨some 12, Op.load 26 _, _, _, _, _⟩ :: _) _ _); refine wpList_load_row rfl 26 _ rfl (w.heap.size) rfl _ (stCells s) _ _ l0 Tryd.underlying26 rfl (by kernel_rfl) ?_)
  refine GS.mono ?_
  rintro e w1 ⟨rfl, hb⟩
  replace bel := bel.trans (hb.mono bel.size)
  replace l0 := below_lies hb l0 (lies_lt l0)
  replace l1 := below_lies hb l1 (lies_lt l1)
  clear hb
  have c16 : w1.cell? ⟨w.heap.size, 16, none⟩ = some (.bool s.ml.a) := (lies_cell l0 16).trans rfl
  have c17 : w1.cell? ⟨w.heap.size, 17, none⟩ = some (.bool s.ml.p) := (lies_cell l0 17).trans rfl
  have c18 : w1.cell? ⟨w.heap.size, 18, none⟩ = some (.int .i64 s.ml.n) := (lies_cell l0 18).trans rfl
  go_wp2_with (first | (go_at_call 22; refine (EX _).mono ?_; rintro e w' ⟨rfl, rfl⟩) | fail)
  refine (L _).mono ?_
  rintro e w2 ⟨rfl, hb⟩
  replace bel := bel.trans (hb.mono bel.size)
  replace l0 := below_lies hb l0 (lies_lt l0)
  replace l1 := below_lies hb l1 (lies_lt l1)
  clear hb
  clear c16 c17 c18
  have c3 : w2.cell? ⟨w.heap.size, 3, none⟩ = some (.bool s.w.a) := (lies_cell l0 3).trans rfl
  have c4 : w2.cell? ⟨w.heap.size, 4, none⟩ = some (.bool s.w.p) := (lies_cell l0 4).trans rfl
  have c5 : w2.cell? ⟨w.heap.size, 5, none⟩ = some (.int .i64 s.w.n) := (lies_cell l0 5).trans rfl
  go_wp2_with fail
  refine (D _).mono ?_
  rintro e w3 ⟨rfl, hb⟩
  replace bel := bel.trans (hb.mono bel.size)
  replace l0 := below_lies hb l0 (lies_lt l0)
  replace l1 := below_lies hb l1 (lies_lt l1)
  clear hb
  clear c3 c4 c5
  have c12 : w3.cell? ⟨w.heap.size, 12, none⟩ = some (.bool s.mr.a) := (lies_cell l0 12).trans rfl
  have c13 : w3.cell? ⟨w.heap.size, 13, none⟩ = some (.bool s.mr.p) := (lies_cell l0 13).trans rfl
  have c14 : w3.cell? ⟨w.heap.size, 14, none⟩ = some (.int .i64 s.mr.n) := (lies_cell l0 14).trans rfl
  go_wp2_with fail
  refine (M _).mono ?_
  rintro e w4 ⟨rfl, hb⟩
  replace bel := bel.trans (hb.mono bel.size)
  replace l0 := below_lies hb l0 (lies_lt l0)
  replace l1 := below_lies hb l1 (lies_lt l1)
  clear hb
  clear c12 c13 c14
  go_wp2_with ((with_reducible show wpList _ _ _ (⟨none, Op.store 30 (Operand.tmp 4) (Operand.tmp 52), _, _, _, _⟩ :: _) _ _); refine wpList_putA rfl _ _ _ rfl rfl _ 0 3 [.int .i64 0, .int .i64 0, .int .i64 0] _ _ rfl rfl l1 rfl (by kernel_rfl) (by kernel_rfl) (by kernel_rfl) ?_; intro w9 p9 l9 n9; replace l1 := l9.trans (congrArg (fun c => some (Obj.cells c 30 (0, 0))) (show _ = (#[.int .i64 0, .int .i64 0, .int .i64 0] : Array Value) by kernel_rfl)); replace l0 := p9.lies l0 (by omega); replace bel := p9.below bel (by omega); clear l9 n9 p9)
  exact bodyPost_ret (v := .tuple #[.agg (#[.int .i64 0, .int .i64 0, .int .i64 0]), .bool false]) (results_row_tmp Tryd.results12 _ _ _ _ (#[.int .i64 0, .int .i64 0, .int .i64 0]) _ _ _ rfl l1 Tryd.underlying30 rfl (by kernel_rfl) rfl) rfl ⟨rfl, bel⟩
set_option maxRecDepth 100000 in
set_option maxHeartbeats 4000000 in
theorem told_w (s : St) (b : Int) (w : World) (et : TypeId) (ev : Value) (he : w.cell? ⟨0, 0, none⟩ = some (.iface et ev)) (hs : styleB s = true) (hb0 : inB 0 1000000 b = true) (h1 : inB (-1000000) 1000000 (mlN s b) = true) (h2 : inB (-1000000) 1000000 (wdN s b) = false) :
    Calls Tryd.prog 12 #[.agg #[.int .i64 s.sh, .int .i64 s.fl, .int .i64 s.cl, .bool s.w.a, .bool s.w.p, .int .i64 s.w.n, .bool s.h.a, .bool s.h.p, .int .i64 s.h.n, .int .i64 s.mn, .int .i64 s.mx, .int .i64 s.mt, .bool s.mr.a, .bool s.mr.p, .int .i64 s.mr.n, .int .i64 s.mb, .bool s.ml.a, .bool s.ml.p, .int .i64 s.ml.n, .int .i64 s.bo, .int .i64 s.pa, .int .i64 s.wh, .int .i64 s.al, .int .i64 s.lh, .int .i64 s.ri, .int .i64 s.dn], .int .i64 b] w fun e w' => e = .returned (.tuple #[.agg (#[.int .i64 0, .int .i64 0, .int .i64 0]), .bool false]) ∧ Below w.heap.size w w' := by
  have l0 : ((w.alloc (.cells (#[.int .i64 s.sh, .int .i64 s.fl, .int .i64 s.cl, .bool s.w.a, .bool s.w.p, .int .i64 s.w.n, .bool s.h.a, .bool s.h.p, .int .i64 s.h.n, .int .i64 s.mn, .int .i64 s.mx, .int .i64 s.mt, .bool s.mr.a, .bool s.mr.p, .int .i64 s.mr.n, .int .i64 s.mb, .bool s.ml.a, .bool s.ml.p, .int .i64 s.ml.n, .int .i64 s.bo, .int .i64 s.pa, .int .i64 s.wh, .int .i64 s.al, .int .i64 s.lh, .int .i64 s.ri, .int .i64 s.dn]) 26)).alloc (.cells (#[.int .i64 0, .int .i64 0, .int .i64 0]) 30)).heap[w.heap.size]? = some (.cells (stCells s) 26 (0, 0)) := heap_in (heap_at _ _ _ rfl)
  have l1 : ((w.alloc (.cells (#[.int .i64 s.sh, .int .i64 s.fl, .int .i64 s.cl, .bool s.w.a, .bool s.w.p, .int .i64 s.w.n, .bool s.h.a, .bool s.h.p, .int .i64 s.h.n, .int .i64 s.mn, .int .i64 s.mx, .int .i64 s.mt, .bool s.mr.a, .bool s.mr.p, .int .i64 s.mr.n, .int .i64 s.mb, .bool s.ml.a, .bool s.ml.p, .int .i64 s.ml.n, .int .i64 s.bo, .int .i64 s.pa, .int .i64 s.wh, .int .i64 s.al, .int .i64 s.lh, .int .i64 s.ri, .int .i64 s.dn]) 26)).alloc (.cells (#[.int .i64 0, .int .i64 0, .int .i64 0]) 30)).heap[w.heap.size + 1]? = some (.cells (#[.int .i64 0, .int .i64 0, .int .i64 0]) 30 (0, 0)) := heap_at _ _ _ (by simp)
  have bel : Below w.heap.size w ((w.alloc (.cells (#[.int .i64 s.sh, .int .i64 s.fl, .int .i64 s.cl, .bool s.w.a, .bool s.w.p, .int .i64 s.w.n, .bool s.h.a, .bool s.h.p, .int .i64 s.h.n, .int .i64 s.mn, .int .i64 s.mx, .int .i64 s.mt, .bool s.mr.a, .bool s.mr.p, .int .i64 s.mr.n, .int .i64 s.mb, .bool s.ml.a, .bool s.ml.p, .int .i64 s.ml.n, .int .i64 s.bo, .int .i64 s.pa, .int .i64 s.wh, .int .i64 s.al, .int .i64 s.lh, .int .i64 s.ri, .int .i64 s.dn]) 26)).alloc (.cells (#[.int .i64 0, .int .i64 0, .int .i64 0]) 30)) := ((Below.refl _ _).alloc (Nat.le_refl _) _).alloc (by simp) _
  have lte : 0 < w.heap.size := World.block_lt_of_cell? _ ⟨0, 0, none⟩ he
  have GS := implGoodStyle_any s ((w.alloc (.cells (#[.int .i64 s.sh, .int .i64 s.fl, .int .i64 s.cl, .bool s.w.a, .bool s.w.p, .int .i64 s.w.n, .bool s.h.a, .bool s.h.p, .int .i64 s.h.n, .int .i64 s.mn, .int .i64 s.mx, .int .i64 s.mt, .bool s.mr.a, .bool s.mr.p, .int .i64 s.mr.n, .int .i64 s.mb, .bool s.ml.a, .bool s.ml.p, .int .i64 s.ml.n, .int .i64 s.bo, .int .i64 s.pa, .int .i64 s.wh, .int .i64 s.al, .int .i64 s.lh, .int .i64 s.ri, .int .i64 s.dn]) 26)).alloc (.cells (#[.int .i64 0, .int .i64 0, .int .i64 0]) 30)) et ev ((bel.cell (p := ⟨0, 0, none⟩) lte).trans he)
  have EX := fun w => isExtent_any b w
  clear he
  obtain ⟨z1, z2, z3⟩ := style_sz hs
  have L := fun w => sizeOr_any s.ml.a s.ml.p s.ml.n b w z1 hb0
  have M := fun w => sizeOr_any s.mr.a s.mr.p s.mr.n b w z2 hb0
  have D := fun w => sizeOr_any s.w.a s.w.p s.w.n b w z3 hb0
  rw [hs] at GS
  rw [hb0] at EX
  rw [told6_y (show inB (-1000000) 1000000 (szN s.ml.p s.ml.n b) = true from h1)] at L
  rw [told6_n (show inB (-1000000) 1000000 (szN s.w.p s.w.n b) = false from h2)] at D
  obtain ⟨xm, ym, hm⟩ := told6_f (szN s.mr.p s.mr.n b)
  rw [hm] at M
  clear hm
  generalize szN s.ml.p s.ml.n b = vl at L
  clear hs hb0 z1 z2 z3 h1 h2
  go_enter Tryd.func12, Tryd.ntmps12
  go_wp2_with ((with_reducible show wpList _ _ _ (⟨some 12, Op.load 26 _, _, _, _, _⟩ :: _) _ _); refine wpList_load_row rfl 26 _ rfl (w.heap.size) rfl _ (stCells s) _ _ l0 Tryd.underlying26 rfl (by kernel_rfl) ?_)
  refine GS.mono ?_
  rintro e w1 ⟨rfl, hb⟩
  replace bel := bel.trans (hb.mono bel.size)
  replace l0 := below_lies hb l0 (lies_lt l0)
  replace l1 := below_lies hb l1 (lies_lt l1)
  clear hb
  have c16 : w1.cell? ⟨w.heap.size, 16, none⟩ = some (.bool s.ml.a) := (lies_cell l0 16).trans rfl
  have c17 : w1.cell? ⟨w.heap.size, 17, none⟩ = some (.bool s.ml.p) := (lies_cell l0 17).trans rfl
  have c18 : w1.cell? ⟨w.heap.size, 18, none⟩ = some (.int .i64 s.ml.n) := (lies_cell l0 18).trans rfl
  go_wp2_with (first | (go_at_call 22; refine (EX _).mono ?_; rintro e w' ⟨rfl, rfl⟩) | fail)
  refine (L _).mono ?_
  rintro e w2 ⟨rfl, hb⟩
  replace bel := bel.trans (hb.mono bel.size)
  replace l0 := below_lies hb l0 (lies_lt l0)
  replace l1 := below_lies hb l1 (lies_lt l1)
  clear hb
  clear c16 c17 c18
  have c3 : w2.cell? ⟨w.heap.size, 3, none⟩ = some (.bool s.w.a) := (lies_cell l0 3).trans rfl
  have c4 : w2.cell? ⟨w.heap.size, 4, none⟩ = some (.bool s.w.p) := (lies_cell l0 4).trans rfl
  have c5 : w2.cell? ⟨w.heap.size, 5, none⟩ = some (.int .i64 s.w.n) := (lies_cell l0 5).trans rfl
  go_wp2_with fail
  refine (D _).mono ?_
  rintro e w3 ⟨rfl, hb⟩
  replace bel := bel.trans (hb.mono bel.size)
  replace l0 := below_lies hb l0 (lies_lt l0)
  replace l1 := below_lies hb l1 (lies_lt l1)
  clear hb
  clear c3 c4 c5
  have c12 : w3.cell? ⟨w.heap.size, 12, none⟩ = some (.bool s.mr.a) := (lies_cell l0 12).trans rfl
  have c13 : w3.cell? ⟨w.heap.size, 13, none⟩ = some (.bool s.mr.p) := (lies_cell l0 13).trans rfl
  have c14 : w3.cell? ⟨w.heap.size, 14, none⟩ = some (.int .i64 s.mr.n) := (lies_cell l0 14).trans rfl
  go_wp2_with fail
  refine (M _).mono ?_
  rintro e w4 ⟨rfl, hb⟩
  replace bel := bel.trans (hb.mono bel.size)
  replace l0 := below_lies hb l0 (lies_lt l0)
  replace l1 := below_lies hb l1 (lies_lt l1)
  clear hb
  clear c12 c13 c14
  go_wp2_with ((with_reducible show wpList _ _ _ (⟨none, Op.store 30 (Operand.tmp 4) (Operand.tmp 52), _, _, _, _⟩ :: _) _ _); refine wpList_putA rfl _ _ _ rfl rfl _ 0 3 [.int .i64 0, .int .i64 0, .int .i64 0] _ _ rfl rfl l1 rfl (by kernel_rfl) (by kernel_rfl) (by kernel_rfl) ?_; intro w9 p9 l9 n9; replace l1 := l9.trans (congrArg (fun c => some (Obj.cells c 30 (0, 0))) (show _ = (#[.int .i64 0, .int .i64 0, .int .i64 0] : Array Value) by kernel_rfl)); replace l0 := p9.lies l0 (by omega); replace bel := p9.below bel (by omega); clear l9 n9 p9)
  exact bodyPost_ret (v := .tuple #[.agg (#[.int .i64 0, .int .i64 0, .int .i64 0]), .bool false]) (results_row_tmp Tryd.results12 _ _ _ _ (#[.int .i64 0, .int .i64 0, .int .i64 0]) _ _ _ rfl l1 Tryd.underlying30 rfl (by kernel_rfl) rfl) rfl ⟨rfl, bel⟩
set_option maxRecDepth 100000 in
set_option maxHeartbeats 4000000 in
theorem told_r (s : St) (b : Int) (w : World) (et : TypeId) (ev : Value) (he : w.cell? ⟨0, 0, none⟩ = some (.iface et ev)) (hs : styleB s = true) (hb0 : inB 0 1000000 b = true) (h1 : inB (-1000000) 1000000 (mlN s b) = true) (h2 : inB (-1000000) 1000000 (wdN s b) = true) (h3 : inB (-1000000) 1000000 (mrN s b) = false) :
    Calls Tryd.prog 12 #[.agg #[.int .i64 s.sh, .int .i64 s.fl, .int .i64 s.cl, .bool s.w.a, .bool s.w.p, .int .i64 s.w.n, .bool s.h.a, .bool s.h.p, .int .i64 s.h.n, .int .i64 s.mn, .int .i64 s.mx, .int .i64 s.mt, .bool s.mr.a, .bool s.mr.p, .int .i64 s.mr.n, .int .i64 s.mb, .bool s.ml.a, .bool s.ml.p, .int .i64 s.ml.n, .int .i64 s.bo, .int .i64 s.pa, .int .i64 s.wh, .int .i64 s.al, .int .i64 s.lh, .int .i64 s.ri, .int .i64 s.dn], .int .i64 b] w fun e w' => e = .returned (.tuple #[.agg (#[.int .i64 0, .int .i64 0, .int .i64 0]), .bool false]) ∧ Below w.heap.size w w' := by
  have l0 : ((w.alloc (.cells (#[.int .i64 s.sh, .int .i64 s.fl, .int .i64 s.cl, .bool s.w.a, .bool s.w.p, .int .i64 s.w.n, .bool s.h.a, .bool s.h.p, .int .i64 s.h.n, .int .i64 s.mn, .int .i64 s.mx, .int .i64 s.mt, .bool s.mr.a, .bool s.mr.p, .int .i64 s.mr.n, .int .i64 s.mb, .bool s.ml.a, .bool s.ml.p, .int .i64 s.ml.n, .int .i64 s.bo, .int .i64 s.pa, .int .i64 s.wh, .int .i64 s.al, .int .i64 s.lh, .int .i64 s.ri, .int .i64 s.dn]) 26)).alloc (.cells (#[.int .i64 0, .int .i64 0, .int .i64 0]) 30)).heap[w.heap.size]? = some (.cells (stCells s) 26 (0, 0)) := heap_in (heap_at _ _ _ rfl)
  have l1 : ((w.alloc (.cells (#[.int .i64 s.sh, .int .i64 s.fl, .int .i64 s.cl, .bool s.w.a, .bool s.w.p, .int .i64 s.w.n, .bool s.h.a, .bool s.h.p, .int .i64 s.h.n, .int .i64 s.mn, .int .i64 s.mx, .int .i64 s.mt, .bool s.mr.a, .bool s.mr.p, .int .i64 s.mr.n, .int .i64 s.mb, .bool s.ml.a, .bool s.ml.p, .int .i64 s.ml.n, .int .i64 s.bo, .int .i64 s.pa, .int .i64 s.wh, .int .i64 s.al, .int .i64 s.lh, .int .i64 s.ri, .int .i64 s.dn]) 26)).alloc (.cells (#[.int .i64 0, .int .i64 0, .int .i64 0]) 30)).heap[w.heap.size + 1]? = some (.cells (#[.int .i64 0, .int .i64 0, .int .i64 0]) 30 (0, 0)) := heap_at _ _ _ (by simp)
  have bel : Below w.heap.size w ((w.alloc (.cells (#[.int .i64 s.sh, .int .i64 s.fl, .int .i64 s.cl, .bool s.w.a, .bool s.w.p, .int .i64 s.w.n, .bool s.h.a, .bool s.h.p, .int .i64 s.h.n, .int .i64 s.mn, .int .i64 s.mx, .int .i64 s.mt, .bool s.mr.a, .bool s.mr.p, .int .i64 s.mr.n, .int .i64 s.mb, .bool s.ml.a, .bool s.ml.p, .int .i64 s.ml.n, .int .i64 s.bo, .int .i64 s.pa, .int .i64 s.wh, .int .i64 s.al, .int .i64 s.lh, .int .i64 s.ri, .int .i64 s.dn]) 26)).alloc (.cells (#[.int .i64 0, .int .i64 0, .int .i64 0]) 30)) := ((Below.refl _ _).alloc (Nat.le_refl _) _).alloc (by simp) _
  have lte : 0 < w.heap.size := World.block_lt_of_cell? _ ⟨0, 0, none⟩ he
  have GS := implGoodStyle_any s ((w.alloc (.cells (#[.int .i64 s.sh, .int .i64 s.fl, .int .i64 s.cl, .bool s.w.a, .bool s.w.p, .int .i64 s.w.n, .bool s.h.a, .bool s.h.p, .int .i64 s.h.n, .int .i64 s.mn, .int .i64 s.mx, .int .i64 s.mt, .bool s.mr.a, .bool s.mr.p, .int .i64 s.mr.n, .int .i64 s.mb, .bool s.ml.a, .bool s.ml.p, .int .i64 s.ml.n, .int .i64 s.bo, .int .i64 s.pa, .int .i64 s.wh, .int .i64 s.al, .int .i64 s.lh, .int .i64 s.ri, .int .i64 s.dn]) 26)).alloc (.cells (#[.int .i64 0, .int .i64 0, .int .i64 0]) 30)) et ev ((bel.cell (p := ⟨0, 0, none⟩) lte).trans he)
  have EX := fun w => isExtent_any b w
  clear he
  obtain ⟨z1, z2, z3⟩ := style_sz hs
  have L := fun w => sizeOr_any s.ml.a s.ml.p s.ml.n b w z1 hb0
  have M := fun w => sizeOr_any s.mr.a s.mr.p s.mr.n b w z2 hb0
  have D := fun w => sizeOr_any s.w.a s.w.p s.w.n b w z3 hb0
  rw [hs] at GS
  rw [hb0] at EX
  rw [told6_y (show inB (-1000000) 1000000 (szN s.ml.p s.ml.n b) = true from h1)] at L
  rw [told6_y (show inB (-1000000) 1000000 (szN s.w.p s.w.n b) = true from h2)] at D
  rw [told6_n (show inB (-1000000) 1000000 (szN s.mr.p s.mr.n b) = false from h3)] at M
  generalize szN s.ml.p s.ml.n b = vl at L
  generalize szN s.w.p s.w.n b = vd at D
  clear hs hb0 z1 z2 z3 h1 h2 h3
  go_enter Tryd.func12, Tryd.ntmps12
  go_wp2_with ((with_reducible show wpList _ _ _ (⟨some 12, Op.load 26 _, _, _, _, _⟩ :: _) _ _); refine wpList_load_row rfl 26 _ rfl (w.heap.size) rfl _ (stCells s) _ _ l0 Tryd.underlying26 rfl (by kernel_rfl) ?_)
  refine GS.mono ?_
  rintro e w1 ⟨rfl, hb⟩
  replace bel := bel.trans (hb.mono bel.size)
  replace l0 := below_lies hb l0 (lies_lt l0)
  replace l1 := below_lies hb l1 (lies_lt l1)
  clear hb
  have c16 : w1.cell? ⟨w.heap.size, 16, none⟩ = some (.bool s.ml.a) := (lies_cell l0 16).trans rfl
  have c17 : w1.cell? ⟨w.heap.size, 17, none⟩ = some (.bool s.ml.p) := (lies_cell l0 17).trans rfl
  have c18 : w1.cell? ⟨w.heap.size, 18, none⟩ = some (.int .i64 s.ml.n) := (lies_cell l0 18).trans rfl
  go_wp2_with (first | (go_at_call 22; refine (EX _).mono ?_; rintro e w' ⟨rfl, rfl⟩) | fail)
  refine (L _).mono ?_
  rintro e w2 ⟨rfl, hb⟩
  replace bel := bel.trans (hb.mono bel.size)
  replace l0 := below_lies hb l0 (lies_lt l0)
  replace l1 := below_lies hb l1 (lies_lt l1)
  clear hb
  clear c16 c17 c18
  have c3 : w2.cell? ⟨w.heap.size, 3, none⟩ = some (.bool s.w.a) := (lies_cell l0 3).trans rfl
  have c4 : w2.cell? ⟨w.heap.size, 4, none⟩ = some (.bool s.w.p) := (lies_cell l0 4).trans rfl
  have c5 : w2.cell? ⟨w.heap.size, 5, none⟩ = some (.int .i64 s.w.n) := (lies_cell l0 5).trans rfl
  go_wp2_with fail
  refine (D _).mono ?_
  rintro e w3 ⟨rfl, hb⟩
  replace bel := bel.trans (hb.mono bel.size)
  replace l0 := below_lies hb l0 (lies_lt l0)
  replace l1 := below_lies hb l1 (lies_lt l1)
  clear hb
  clear c3 c4 c5
  have c12 : w3.cell? ⟨w.heap.size, 12, none⟩ = some (.bool s.mr.a) := (lies_cell l0 12).trans rfl
  have c13 : w3.cell? ⟨w.heap.size, 13, none⟩ = some (.bool s.mr.p) := (lies_cell l0 13).trans rfl
  have c14 : w3.cell? ⟨w.heap.size, 14, none⟩ = some (.int .i64 s.mr.n) := (lies_cell l0 14).trans rfl
  go_wp2_with fail
  refine (M _).mono ?_
  rintro e w4 ⟨rfl, hb⟩
  replace bel := bel.trans (hb.mono bel.size)
  replace l0 := below_lies hb l0 (lies_lt l0)
  replace l1 := below_lies hb l1 (lies_lt l1)
  clear hb
  clear c12 c13 c14
  go_wp2_with ((with_reducible show wpList _ _ _ (⟨none, Op.store 30 (Operand.tmp 4) (Operand.tmp 52), _, _, _, _⟩ :: _) _ _); refine wpList_putA rfl _ _ _ rfl rfl _ 0 3 [.int .i64 0, .int .i64 0, .int .i64 0] _ _ rfl rfl l1 rfl (by kernel_rfl) (by kernel_rfl) (by kernel_rfl) ?_; intro w9 p9 l9 n9; replace l1 := l9.trans (congrArg (fun c => some (Obj.cells c 30 (0, 0))) (show _ = (#[.int .i64 0, .int .i64 0, .int .i64 0] : Array Value) by kernel_rfl)); replace l0 := p9.lies l0 (by omega); replace bel := p9.below bel (by omega); clear l9 n9 p9)
  exact bodyPost_ret (v := .tuple #[.agg (#[.int .i64 0, .int .i64 0, .int .i64 0]), .bool false]) (results_row_tmp Tryd.results12 _ _ _ _ (#[.int .i64 0, .int .i64 0, .int .i64 0]) _ _ _ rfl l1 Tryd.underlying30 rfl (by kernel_rfl) rfl) rfl ⟨rfl, bel⟩
set_option maxRecDepth 100000 in
set_option maxHeartbeats 4000000 in
theorem told_y (s : St) (b : Int) (w : World) (et : TypeId) (ev : Value) (he : w.cell? ⟨0, 0, none⟩ = some (.iface et ev)) (hs : styleB s = true) (hb0 : inB 0 1000000 b = true) (h1 : inB (-1000000) 1000000 (mlN s b) = true) (h2 : inB (-1000000) 1000000 (wdN s b) = true) (h3 : inB (-1000000) 1000000 (mrN s b) = true) :
    Calls Tryd.prog 12 #[.agg #[.int .i64 s.sh, .int .i64 s.fl, .int .i64 s.cl, .bool s.w.a, .bool s.w.p, .int .i64 s.w.n, .bool s.h.a, .bool s.h.p, .int .i64 s.h.n, .int .i64 s.mn, .int .i64 s.mx, .int .i64 s.mt, .bool s.mr.a, .bool s.mr.p, .int .i64 s.mr.n, .int .i64 s.mb, .bool s.ml.a, .bool s.ml.p, .int .i64 s.ml.n, .int .i64 s.bo, .int .i64 s.pa, .int .i64 s.wh, .int .i64 s.al, .int .i64 s.lh, .int .i64 s.ri, .int .i64 s.dn], .int .i64 b] w fun e w' => e = .returned (.tuple #[.agg (#[.int .i64 (mlN s b), .int .i64 (wdN s b), .int .i64 (mrN s b)]), .bool true]) ∧ Below w.heap.size w w' := by
  have l0 : ((w.alloc (.cells (#[.int .i64 s.sh, .int .i64 s.fl, .int .i64 s.cl, .bool s.w.a, .bool s.w.p, .int .i64 s.w.n, .bool s.h.a, .bool s.h.p, .int .i64 s.h.n, .int .i64 s.mn, .int .i64 s.mx, .int .i64 s.mt, .bool s.mr.a, .bool s.mr.p, .int .i64 s.mr.n, .int .i64 s.mb, .bool s.ml.a, .bool s.ml.p, .int .i64 s.ml.n, .int .i64 s.bo, .int .i64 s.pa, .int .i64 s.wh, .int .i64 s.al, .int .i64 s.lh, .int .i64 s.ri, .int .i64 s.dn]) 26)).alloc (.cells (#[.int .i64 0, .int .i64 0, .int .i64 0]) 30)).heap[w.heap.size]? = some (.cells (stCells s) 26 (0, 0)) := heap_in (heap_at _ _ _ rfl)
  have l1 : ((w.alloc (.cells (#[.int .i64 s.sh, .int .i64 s.fl, .int .i64 s.cl, .bool s.w.a, .bool s.w.p, .int .i64 s.w.n, .bool s.h.a, .bool s.h.p, .int .i64 s.h.n, .int .i64 s.mn, .int .i64 s.mx, .int .i64 s.mt, .bool s.mr.a, .bool s.mr.p, .int .i64 s.mr.n, .int .i64 s.mb, .bool s.ml.a, .bool s.ml.p, .int .i64 s.ml.n, .int .i64 s.bo, .int .i64 s.pa, .int .i64 s.wh, .int .i64 s.al, .int .i64 s.lh, .int .i64 s.ri, .int .i64 s.dn]) 26)).alloc (.cells (#[.int .i64 0, .int .i64 0, .int .i64 0]) 30)).heap[w.heap.size + 1]? = some (.cells (#[.int .i64 0, .int .i64 0, .int .i64 0]) 30 (0, 0)) := heap_at _ _ _ (by simp)
  have bel : Below w.heap.size w ((w.alloc (.cells (#[.int .i64 s.sh, .int .i64 s.fl, .int .i64 s.cl, .bool s.w.a, .bool s.w.p, .int .i64 s.w.n, .bool s.h.a, .bool s.h.p, .int .i64 s.h.n, .int .i64 s.mn, .int .i64 s.mx, .int .i64 s.mt, .bool s.mr.a, .bool s.mr.p, .int .i64 s.mr.n, .int .i64 s.mb, .bool s.ml.a, .bool s.ml.p, .int .i64 s.ml.n, .int .i64 s.bo, .int .i64 s.pa, .int .i64 s.wh, .int .i64 s.al, .int .i64 s.lh, .int .i64 s.ri, .int .i64 s.dn]) 26)).alloc (.cells (#[.int .i64 0, .int .i64 0, .int .i64 0]) 30)) := ((Below.refl _ _).alloc (Nat.le_refl _) _).alloc (by simp) _
  have lte : 0 < w.heap.size := World.block_lt_of_cell? _ ⟨0, 0, none⟩ he
  have GS := implGoodStyle_any s ((w.alloc (.cells (#[.int .i64 s.sh, .int .i64 s.fl, .int .i64 s.cl, .bool s.w.a, .bool s.w.p, .int .i64 s.w.n, .bool s.h.a, .bool s.h.p, .int .i64 s.h.n, .int .i64 s.mn, .int .i64 s.mx, .int .i64 s.mt, .bool s.mr.a, .bool s.mr.p, .int .i64 s.mr.n, .int .i64 s.mb, .bool s.ml.a, .bool s.ml.p, .int .i64 s.ml.n, .int .i64 s.bo, .int .i64 s.pa, .int .i64 s.wh, .int .i64 s.al, .int .i64 s.lh, .int .i64 s.ri, .int .i64 s.dn]) 26)).alloc (.cells (#[.int .i64 0, .int .i64 0, .int .i64 0]) 30)) et ev ((bel.cell (p := ⟨0, 0, none⟩) lte).trans he)
  have EX := fun w => isExtent_any b w
  clear he
  obtain ⟨z1, z2, z3⟩ := style_sz hs
  have L := fun w => sizeOr_any s.ml.a s.ml.p s.ml.n b w z1 hb0
  have M := fun w => sizeOr_any s.mr.a s.mr.p s.mr.n b w z2 hb0
  have D := fun w => sizeOr_any s.w.a s.w.p s.w.n b w z3 hb0
  rw [hs] at GS
  rw [hb0] at EX
  rw [told6_y (show inB (-1000000) 1000000 (szN s.ml.p s.ml.n b) = true from h1)] at L
  rw [told6_y (show inB (-1000000) 1000000 (szN s.w.p s.w.n b) = true from h2)] at D
  rw [told6_y (show inB (-1000000) 1000000 (szN s.mr.p s.mr.n b) = true from h3)] at M
  unfold mlN wdN mrN
  clear hs hb0 z1 z2 z3 h1 h2 h3
  generalize szN s.ml.p s.ml.n b = vl at L ⊢
  generalize szN s.w.p s.w.n b = vd at D ⊢
  generalize szN s.mr.p s.mr.n b = vm at M ⊢
  go_enter Tryd.func12, Tryd.ntmps12
  go_wp2_with ((with_reducible show wpList _ _ _ (⟨some 12, Op.load 26 _, _, _, _, _⟩ :: _) _ _); refine wpList_load_row rfl 26 _ rfl (w.heap.size) rfl _ (stCells s) _ _ l0 Tryd.underlying26 rfl (by kernel_rfl) ?_)
  refine GS.mono ?_
  rintro e w1 ⟨rfl, hb⟩
  replace bel := bel.trans (hb.mono bel.size)
  replace l0 := below_lies hb l0 (lies_lt l0)
  replace l1 := below_lies hb l1 (lies_lt l1)
  clear hb
  have c16 : w1.cell? ⟨w.heap.size, 16, none⟩ = some (.bool s.ml.a) := (lies_cell l0 16).trans rfl
  have c17 : w1.cell? ⟨w.heap.size, 17, none⟩ = some (.bool s.ml.p) := (lies_cell l0 17).trans rfl
  have c18 : w1.cell? ⟨w.heap.size, 18, none⟩ = some (.int .i64 s.ml.n) := (lies_cell l0 18).trans rfl
  go_wp2_with (first | (go_at_call 22; refine (EX _).mono ?_; rintro e w' ⟨rfl, rfl⟩) | fail)
  refine (L _).mono ?_
  rintro e w2 ⟨rfl, hb⟩
  replace bel := bel.trans (hb.mono bel.size)
  replace l0 := below_lies hb l0 (lies_lt l0)
  replace l1 := below_lies hb l1 (lies_lt l1)
  clear hb
  clear c16 c17 c18
  have c3 : w2.cell? ⟨w.heap.size, 3, none⟩ = some (.bool s.w.a) := (lies_cell l0 3).trans rfl
  have c4 : w2.cell? ⟨w.heap.size, 4, none⟩ = some (.bool s.w.p) := (lies_cell l0 4).trans rfl
  have c5 : w2.cell? ⟨w.heap.size, 5, none⟩ = some (.int .i64 s.w.n) := (lies_cell l0 5).trans rfl
  go_wp2_with fail
  refine (D _).mono ?_
  rintro e w3 ⟨rfl, hb⟩
  replace bel := bel.trans (hb.mono bel.size)
  replace l0 := below_lies hb l0 (lies_lt l0)
  replace l1 := below_lies hb l1 (lies_lt l1)
  clear hb
  clear c3 c4 c5
  have c12 : w3.cell? ⟨w.heap.size, 12, none⟩ = some (.bool s.mr.a) := (lies_cell l0 12).trans rfl
  have c13 : w3.cell? ⟨w.heap.size, 13, none⟩ = some (.bool s.mr.p) := (lies_cell l0 13).trans rfl
  have c14 : w3.cell? ⟨w.heap.size, 14, none⟩ = some (.int .i64 s.mr.n) := (lies_cell l0 14).trans rfl
  go_wp2_with fail
  refine (M _).mono ?_
  rintro e w4 ⟨rfl, hb⟩
  replace bel := bel.trans (hb.mono bel.size)
  replace l0 := below_lies hb l0 (lies_lt l0)
  replace l1 := below_lies hb l1 (lies_lt l1)
  clear hb
  clear c12 c13 c14
  go_wp2_with ((with_reducible show wpList _ _ _ (⟨none, Op.store 30 (Operand.tmp 4) (Operand.tmp 56), _, _, _, _⟩ :: _) _ _); refine wpList_putA rfl _ _ _ rfl rfl _ 0 3 [.int .i64 vl, .int .i64 vd, .int .i64 vm] _ _ rfl rfl l1 rfl (by kernel_rfl) (by kernel_rfl) (by kernel_rfl) ?_; intro w9 p9 l9 n9; replace l1 := l9.trans (congrArg (fun c => some (Obj.cells c 30 (0, 0))) (show _ = (#[.int .i64 vl, .int .i64 vd, .int .i64 vm] : Array Value) by kernel_rfl)); replace l0 := p9.lies l0 (by omega); replace bel := p9.below bel (by omega); clear l9 n9 p9)
  exact bodyPost_ret (v := .tuple #[.agg (#[.int .i64 vl, .int .i64 vd, .int .i64 vm]), .bool true]) (results_row_tmp Tryd.results12 _ _ _ _ (#[.int .i64 vl, .int .i64 vd, .int .i64 vm]) _ _ _ rfl l1 Tryd.underlying30 rfl (by kernel_rfl) rfl) rfl ⟨rfl, bel⟩
theorem okA_no {s : St} {b : Int} (h : okA s b = false) (hs : styleB s = true) (hb : inB 0 1000000 b = true) : inB (-1000000) 1000000 (mlN s b) = false ∨ (inB (-1000000) 1000000 (mlN s b) = true ∧ inB (-1000000) 1000000 (wdN s b) = false) ∨ (inB (-1000000) 1000000 (mlN s b) = true ∧ inB (-1000000) 1000000 (wdN s b) = true ∧ inB (-1000000) 1000000 (mrN s b) = false) := by
  unfold okA at h
  rw [hs, hb] at h
  revert h
  cases inB (-1000000) 1000000 (mlN s b) <;> cases inB (-1000000) 1000000 (wdN s b) <;> cases inB (-1000000) 1000000 (mrN s b) <;> simp
theorem okA_yes {s : St} {b : Int} (h : okA s b = true) : styleB s = true ∧ inB 0 1000000 b = true ∧ inB (-1000000) 1000000 (mlN s b) = true ∧ inB (-1000000) 1000000 (wdN s b) = true ∧ inB (-1000000) 1000000 (mrN s b) = true := by
  unfold okA at h
  simp only [Bool.and_eq_true] at h
  exact ⟨h.1.1.1.1, h.1.1.1.2, h.1.1.2, h.2, h.1.2⟩
theorem told_no (s : St) (b : Int) (w : World) (et : TypeId) (ev : Value) (he : w.cell? ⟨0, 0, none⟩ = some (.iface et ev)) (h : okA s b = false) :
    Calls Tryd.prog 12 #[.agg #[.int .i64 s.sh, .int .i64 s.fl, .int .i64 s.cl, .bool s.w.a, .bool s.w.p, .int .i64 s.w.n, .bool s.h.a, .bool s.h.p, .int .i64 s.h.n, .int .i64 s.mn, .int .i64 s.mx, .int .i64 s.mt, .bool s.mr.a, .bool s.mr.p, .int .i64 s.mr.n, .int .i64 s.mb, .bool s.ml.a, .bool s.ml.p, .int .i64 s.ml.n, .int .i64 s.bo, .int .i64 s.pa, .int .i64 s.wh, .int .i64 s.al, .int .i64 s.lh, .int .i64 s.ri, .int .i64 s.dn], .int .i64 b] w fun e w' => e = .returned (.tuple #[.agg (#[.int .i64 0, .int .i64 0, .int .i64 0]), .bool false]) ∧ Below w.heap.size w w' := by
  cases hg : styleB s && inB 0 1000000 b
  · exact told_bad s b w et ev he hg
  · rw [Bool.and_eq_true] at hg
    rcases okA_no h hg.1 hg.2 with h1 | ⟨h1, h2⟩ | ⟨h1, h2, h3⟩
    · exact told_l s b w et ev he hg.1 hg.2 h1
    · exact told_w s b w et ev he hg.1 hg.2 h1 h2
    · exact told_r s b w et ev he hg.1 hg.2 h1 h2 h3
theorem told_yes (s : St) (b : Int) (w : World) (et : TypeId) (ev : Value) (he : w.cell? ⟨0, 0, none⟩ = some (.iface et ev)) (h : okA s b = true) :
    Calls Tryd.prog 12 #[.agg #[.int .i64 s.sh, .int .i64 s.fl, .int .i64 s.cl, .bool s.w.a, .bool s.w.p, .int .i64 s.w.n, .bool s.h.a, .bool s.h.p, .int .i64 s.h.n, .int .i64 s.mn, .int .i64 s.mx, .int .i64 s.mt, .bool s.mr.a, .bool s.mr.p, .int .i64 s.mr.n, .int .i64 s.mb, .bool s.ml.a, .bool s.ml.p, .int .i64 s.ml.n, .int .i64 s.bo, .int .i64 s.pa, .int .i64 s.wh, .int .i64 s.al, .int .i64 s.lh, .int .i64 s.ri, .int .i64 s.dn], .int .i64 b] w fun e w' => e = .returned (.tuple #[.agg (#[.int .i64 (mlN s b), .int .i64 (wdN s b), .int .i64 (mrN s b)]), .bool true]) ∧ Below w.heap.size w w' := by
  obtain ⟨a1, a2, a3, a4, a5⟩ := okA_yes h
  exact told_y s b w et ev he a1 a2 a3 a4 a5
end Go.Proofs.YtojdmcennpgndaaDoor
