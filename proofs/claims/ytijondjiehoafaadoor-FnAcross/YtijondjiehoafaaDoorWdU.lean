/-
  The model's BlockAcross and FloatAcross.
-/
import Derived.Test.YtijondjiehoafaaDoorWdO
import Derived.Test.YtijondjiehoafaaDoorWdF
import Derived.Test.YtijondjiehoafaaDoorWdB
namespace Go.Proofs.YtijondjiehoafaaDoor
open Go.ChangeShapes Go.WideShapes Go.ChangeAt Go.RowKit
set_option linter.unusedVariables false

def good3 (s : St) (b : Int) (k : Nat) : Prop := (0 < k → inB (-1000000) 1000000 (mlN s b) = true) ∧ (1 < k → inB (-1000000) 1000000 (mrN s b) = true) ∧ (2 < k → inB (-1000000) 1000000 (wdN s b) = true)
theorem gd_of {s : St} {b : Int} (h : okA s b = true) : gdB s b = true := by
  obtain ⟨h1, h2, _⟩ := okA_yes h
  unfold gdB
  rw [h1, h2]
  rfl
theorem good3_ok {s : St} {b : Int} (hg : gdB s b = true) (h : good3 s b 3) : okA s b = true := by
  unfold okA
  rw [show (styleB s && inB 0 1000000 b) = true from hg, h.1 (by omega), h.2.1 (by omega), h.2.2 (by omega)]
  rfl
set_option maxRecDepth 100000 in
set_option maxHeartbeats 8000000 in
theorem blockS_g (s : St) (b : Int) (w : World) (hg : gdB s b = false) :
    Calls Tryd.prog 8 #[.agg #[.int .i64 s.sh, .int .i64 s.fl, .int .i64 s.cl, .bool s.w.a, .bool s.w.p, .int .i64 s.w.n, .bool s.h.a, .bool s.h.p, .int .i64 s.h.n, .int .i64 s.mn, .int .i64 s.mx, .int .i64 s.mt, .bool s.mr.a, .bool s.mr.p, .int .i64 s.mr.n, .int .i64 s.mb, .bool s.ml.a, .bool s.ml.p, .int .i64 s.ml.n, .int .i64 s.bo, .int .i64 s.pa, .int .i64 s.wh, .int .i64 s.al, .int .i64 s.lh, .int .i64 s.ri, .int .i64 s.dn], .int .i64 b] w fun e w' => e = .returned (.tuple #[.agg (#[.int .i64 0, .int .i64 0, .int .i64 0]), .bool false]) ∧ Below w.heap.size w w' := by
  have l0 : ((w.alloc (.cells (#[.int .i64 s.sh, .int .i64 s.fl, .int .i64 s.cl, .bool s.w.a, .bool s.w.p, .int .i64 s.w.n, .bool s.h.a, .bool s.h.p, .int .i64 s.h.n, .int .i64 s.mn, .int .i64 s.mx, .int .i64 s.mt, .bool s.mr.a, .bool s.mr.p, .int .i64 s.mr.n, .int .i64 s.mb, .bool s.ml.a, .bool s.ml.p, .int .i64 s.ml.n, .int .i64 s.bo, .int .i64 s.pa, .int .i64 s.wh, .int .i64 s.al, .int .i64 s.lh, .int .i64 s.ri, .int .i64 s.dn]) 32)).alloc (.cells (#[.int .i64 0, .int .i64 0, .int .i64 0]) 27)).heap[w.heap.size]? = some (.cells (stCells s) 32 (0, 0)) := heap_in (heap_at _ _ _ rfl)
  have l1 : ((w.alloc (.cells (#[.int .i64 s.sh, .int .i64 s.fl, .int .i64 s.cl, .bool s.w.a, .bool s.w.p, .int .i64 s.w.n, .bool s.h.a, .bool s.h.p, .int .i64 s.h.n, .int .i64 s.mn, .int .i64 s.mx, .int .i64 s.mt, .bool s.mr.a, .bool s.mr.p, .int .i64 s.mr.n, .int .i64 s.mb, .bool s.ml.a, .bool s.ml.p, .int .i64 s.ml.n, .int .i64 s.bo, .int .i64 s.pa, .int .i64 s.wh, .int .i64 s.al, .int .i64 s.lh, .int .i64 s.ri, .int .i64 s.dn]) 32)).alloc (.cells (#[.int .i64 0, .int .i64 0, .int .i64 0]) 27)).heap[w.heap.size + 1]? = some (.cells (#[.int .i64 0, .int .i64 0, .int .i64 0]) 27 (0, 0)) := heap_at _ _ _ (by simp)
  have bel : Below w.heap.size w ((w.alloc (.cells (#[.int .i64 s.sh, .int .i64 s.fl, .int .i64 s.cl, .bool s.w.a, .bool s.w.p, .int .i64 s.w.n, .bool s.h.a, .bool s.h.p, .int .i64 s.h.n, .int .i64 s.mn, .int .i64 s.mx, .int .i64 s.mt, .bool s.mr.a, .bool s.mr.p, .int .i64 s.mr.n, .int .i64 s.mb, .bool s.ml.a, .bool s.ml.p, .int .i64 s.ml.n, .int .i64 s.bo, .int .i64 s.pa, .int .i64 s.wh, .int .i64 s.al, .int .i64 s.lh, .int .i64 s.ri, .int .i64 s.dn]) 32)).alloc (.cells (#[.int .i64 0, .int .i64 0, .int .i64 0]) 27)) := ((Below.refl _ _).alloc (Nat.le_refl _) _).alloc (by simp) _
  have GS := fun w => l6Good_any s b w
  rw [hg] at GS
  clear hg
  go_enter Tryd.func8, Tryd.ntmps8
  go_wp2_with ((with_reducible show wpList _ _ _ (⟨some 8, Op.load 32 _, _, _, _, _⟩ :: _) _ _); refine wpList_load_row rfl 32 _ rfl (w.heap.size) rfl _ (stCells s) _ _ l0 Tryd.underlying32 rfl (by kernel_rfl) ?_)
  refine (GS _).mono ?_
  rintro e w1 ⟨rfl, hb⟩
  replace bel := bel.trans (hb.mono bel.size)
  replace l0 := below_lies hb l0 (lies_lt l0)
  replace l1 := below_lies hb l1 (lies_lt l1)
  clear hb
  have z1 := lies_lt l1
  go_wp2_with ((with_reducible show wpList _ _ _ (⟨none, Op.store 27 (Operand.tmp 4) (Operand.tmp 12), _, _, _, _⟩ :: _) _ _); refine wpList_putA rfl _ _ _ rfl rfl _ 0 3 [.int .i64 0, .int .i64 0, .int .i64 0] _ _ rfl rfl l1 rfl (by kernel_rfl) (by kernel_rfl) (by kernel_rfl) ?_; intro w9 p9 l9 n9; replace l1 := l9.trans (congrArg (fun c => some (Obj.cells c 27 (0, 0))) (show _ = (#[.int .i64 0, .int .i64 0, .int .i64 0] : Array Value) by kernel_rfl)); replace l0 := p9.lies l0 (by omega); replace bel := p9.below bel (by omega); clear l9 n9 p9)
  exact bodyPost_ret (v := .tuple #[.agg (#[.int .i64 0, .int .i64 0, .int .i64 0]), .bool false]) (results_row_tmp Tryd.results8 _ _ _ _ (#[.int .i64 0, .int .i64 0, .int .i64 0]) _ _ _ rfl l1 Tryd.underlying27 rfl (by kernel_rfl) rfl) rfl ⟨rfl, bel⟩
set_option maxRecDepth 100000 in
set_option maxHeartbeats 8000000 in
theorem blockS_a (s : St) (b : Int) (w : World) (hg : gdB s b = true) (ha : okA s b = false)  :
    Calls Tryd.prog 8 #[.agg #[.int .i64 s.sh, .int .i64 s.fl, .int .i64 s.cl, .bool s.w.a, .bool s.w.p, .int .i64 s.w.n, .bool s.h.a, .bool s.h.p, .int .i64 s.h.n, .int .i64 s.mn, .int .i64 s.mx, .int .i64 s.mt, .bool s.mr.a, .bool s.mr.p, .int .i64 s.mr.n, .int .i64 s.mb, .bool s.ml.a, .bool s.ml.p, .int .i64 s.ml.n, .int .i64 s.bo, .int .i64 s.pa, .int .i64 s.wh, .int .i64 s.al, .int .i64 s.lh, .int .i64 s.ri, .int .i64 s.dn], .int .i64 b] w fun e w' => e = .returned (.tuple #[.agg (#[.int .i64 0, .int .i64 0, .int .i64 0]), .bool false]) ∧ Below w.heap.size w w' := by
  have l0 : ((w.alloc (.cells (#[.int .i64 s.sh, .int .i64 s.fl, .int .i64 s.cl, .bool s.w.a, .bool s.w.p, .int .i64 s.w.n, .bool s.h.a, .bool s.h.p, .int .i64 s.h.n, .int .i64 s.mn, .int .i64 s.mx, .int .i64 s.mt, .bool s.mr.a, .bool s.mr.p, .int .i64 s.mr.n, .int .i64 s.mb, .bool s.ml.a, .bool s.ml.p, .int .i64 s.ml.n, .int .i64 s.bo, .int .i64 s.pa, .int .i64 s.wh, .int .i64 s.al, .int .i64 s.lh, .int .i64 s.ri, .int .i64 s.dn]) 32)).alloc (.cells (#[.int .i64 0, .int .i64 0, .int .i64 0]) 27)).heap[w.heap.size]? = some (.cells (stCells s) 32 (0, 0)) := heap_in (heap_at _ _ _ rfl)
  have l1 : ((w.alloc (.cells (#[.int .i64 s.sh, .int .i64 s.fl, .int .i64 s.cl, .bool s.w.a, .bool s.w.p, .int .i64 s.w.n, .bool s.h.a, .bool s.h.p, .int .i64 s.h.n, .int .i64 s.mn, .int .i64 s.mx, .int .i64 s.mt, .bool s.mr.a, .bool s.mr.p, .int .i64 s.mr.n, .int .i64 s.mb, .bool s.ml.a, .bool s.ml.p, .int .i64 s.ml.n, .int .i64 s.bo, .int .i64 s.pa, .int .i64 s.wh, .int .i64 s.al, .int .i64 s.lh, .int .i64 s.ri, .int .i64 s.dn]) 32)).alloc (.cells (#[.int .i64 0, .int .i64 0, .int .i64 0]) 27)).heap[w.heap.size + 1]? = some (.cells (#[.int .i64 0, .int .i64 0, .int .i64 0]) 27 (0, 0)) := heap_at _ _ _ (by simp)
  have bel : Below w.heap.size w ((w.alloc (.cells (#[.int .i64 s.sh, .int .i64 s.fl, .int .i64 s.cl, .bool s.w.a, .bool s.w.p, .int .i64 s.w.n, .bool s.h.a, .bool s.h.p, .int .i64 s.h.n, .int .i64 s.mn, .int .i64 s.mx, .int .i64 s.mt, .bool s.mr.a, .bool s.mr.p, .int .i64 s.mr.n, .int .i64 s.mb, .bool s.ml.a, .bool s.ml.p, .int .i64 s.ml.n, .int .i64 s.bo, .int .i64 s.pa, .int .i64 s.wh, .int .i64 s.al, .int .i64 s.lh, .int .i64 s.ri, .int .i64 s.dn]) 32)).alloc (.cells (#[.int .i64 0, .int .i64 0, .int .i64 0]) 27)) := ((Below.refl _ _).alloc (Nat.le_refl _) _).alloc (by simp) _
  have GS := fun w => l6Good_any s b w
  have hg' := hg
  unfold gdB at hg'
  rw [Bool.and_eq_true] at hg'
  obtain ⟨k1, k2⟩ := inB_yes hg'.2
  obtain ⟨z1, z2, z3⟩ := style_sz hg'.1
  have L := fun w => l6Size_any s.ml.a s.ml.p s.ml.n b w k1 k2 (szB_bd z1).1 (szB_bd z1).2
  have M := fun w => l6Size_any s.mr.a s.mr.p s.mr.n b w k1 k2 (szB_bd z2).1 (szB_bd z2).2
  have D := fun w => l6Size_any s.w.a s.w.p s.w.n b w k1 k2 (szB_bd z3).1 (szB_bd z3).2
  rw [show szN s.ml.p s.ml.n b = mlN s b from rfl] at L
  rw [show szN s.mr.p s.mr.n b = mrN s b from rfl] at M
  rw [show szN s.w.p s.w.n b = wdN s b from rfl] at D
  rw [hg] at GS
  have HG : Hid (gdB s b = true) := hg
  have HN : Hid (okA s b = false) := ha
  obtain ⟨vl, hvl⟩ : ∃ v, v = mlN s b := ⟨_, rfl⟩
  obtain ⟨vm, hvm⟩ : ∃ v, v = mrN s b := ⟨_, rfl⟩
  obtain ⟨vd, hvd⟩ : ∃ v, v = wdN s b := ⟨_, rfl⟩
  have HVL : Hid (vl = mlN s b) := hvl
  have HVM : Hid (vm = mrN s b) := hvm
  have HVD : Hid (vd = wdN s b) := hvd
  rw [← hvl] at L
  rw [← hvm] at M
  rw [← hvd] at D
  clear hg hg' z1 z2 z3 ha hvl hvm hvd k1 k2
  go_enter Tryd.func8, Tryd.ntmps8
  go_wp2_with ((with_reducible show wpList _ _ _ (⟨some 8, Op.load 32 _, _, _, _, _⟩ :: _) _ _); refine wpList_load_row rfl 32 _ rfl (w.heap.size) rfl _ (stCells s) _ _ l0 Tryd.underlying32 rfl (by kernel_rfl) ?_)
  refine (GS _).mono ?_
  rintro e w1 ⟨rfl, hb⟩
  replace bel := bel.trans (hb.mono bel.size)
  replace l0 := below_lies hb l0 (lies_lt l0)
  replace l1 := below_lies hb l1 (lies_lt l1)
  clear hb
  have z1 := lies_lt l1
  have c16 : w1.cell? ⟨w.heap.size, 16, none⟩ = some (.bool s.ml.a) := (lies_cell l0 16).trans rfl
  have c17 : w1.cell? ⟨w.heap.size, 17, none⟩ = some (.bool s.ml.p) := (lies_cell l0 17).trans rfl
  have c18 : w1.cell? ⟨w.heap.size, 18, none⟩ = some (.int .i64 s.ml.n) := (lies_cell l0 18).trans rfl
  have c12 : w1.cell? ⟨w.heap.size, 12, none⟩ = some (.bool s.mr.a) := (lies_cell l0 12).trans rfl
  have c13 : w1.cell? ⟨w.heap.size, 13, none⟩ = some (.bool s.mr.p) := (lies_cell l0 13).trans rfl
  have c14 : w1.cell? ⟨w.heap.size, 14, none⟩ = some (.int .i64 s.mr.n) := (lies_cell l0 14).trans rfl
  have c3 : w1.cell? ⟨w.heap.size, 3, none⟩ = some (.bool s.w.a) := (lies_cell l0 3).trans rfl
  have c4 : w1.cell? ⟨w.heap.size, 4, none⟩ = some (.bool s.w.p) := (lies_cell l0 4).trans rfl
  have c5 : w1.cell? ⟨w.heap.size, 5, none⟩ = some (.int .i64 s.w.n) := (lies_cell l0 5).trans rfl
  go_wp2
  have lq := heap_at w1 (.cells (#[.bool s.ml.a, .bool s.ml.p, .int .i64 s.ml.n, .bool s.mr.a, .bool s.mr.p, .int .i64 s.mr.n, .bool s.w.a, .bool s.w.p, .int .i64 s.w.n]) 30) _ rfl
  replace l0 := heap_in (o := .cells (#[.bool s.ml.a, .bool s.ml.p, .int .i64 s.ml.n, .bool s.mr.a, .bool s.mr.p, .int .i64 s.mr.n, .bool s.w.a, .bool s.w.p, .int .i64 s.w.n]) 30) l0
  replace l1 := heap_in (o := .cells (#[.bool s.ml.a, .bool s.ml.p, .int .i64 s.ml.n, .bool s.mr.a, .bool s.mr.p, .int .i64 s.mr.n, .bool s.w.a, .bool s.w.p, .int .i64 s.w.n]) 30) l1
  replace bel := bel.alloc bel.size (.cells (#[.bool s.ml.a, .bool s.ml.p, .int .i64 s.ml.n, .bool s.mr.a, .bool s.mr.p, .int .i64 s.mr.n, .bool s.w.a, .bool s.w.p, .int .i64 s.w.n]) 30)
  clear c16 c17 c18 c12 c13 c14 c3 c4 c5
  go_loopw [21] (fun i wr => ∃ k : Nat, k ≤ 3 ∧ i = .int .i64 k ∧ Hid (good3 s b k) ∧ Below w.heap.size w wr ∧ wr.heap[w.heap.size]? = some (.cells (stCells s) 32 (0, 0)) ∧ wr.heap[w.heap.size + 1]? = some (.cells (#[.int .i64 0, .int .i64 0, .int .i64 0]) 27 (0, 0)) ∧ wr.heap[w1.heap.size]? = some (.cells (#[.bool s.ml.a, .bool s.ml.p, .int .i64 s.ml.n, .bool s.mr.a, .bool s.mr.p, .int .i64 s.mr.n, .bool s.w.a, .bool s.w.p, .int .i64 s.w.n]) 30 (0, 0))) (fun i _ => 3 - (intOf i).toNat)
  case atStart => exact ⟨0, by omega, rfl, ⟨fun h => by omega, fun h => by omega, fun h => by omega⟩, bel, l0, l1, lq⟩
  case round =>
    clear l0 l1 lq bel
    obtain ⟨k, hk, rfl, hgd, bel, l0, l1, lq⟩ := hrel
    have z2 := lies_lt lq
    rcases (by omega : k = 0 ∨ k = 1 ∨ k = 2 ∨ k = 3) with rfl | rfl | rfl | rfl
    · have e0 : wr.cell? ⟨w1.heap.size, 0, none⟩ = some (.bool s.ml.a) := (lies_cell lq 0).trans rfl
      have e1 : wr.cell? ⟨w1.heap.size, 1, none⟩ = some (.bool s.ml.p) := (lies_cell lq 1).trans rfl
      have e2 : wr.cell? ⟨w1.heap.size, 2, none⟩ = some (.int .i64 s.ml.n) := (lies_cell lq 2).trans rfl
      go_wp2_with (first | ((with_reducible show wpList _ _ _ (⟨none, Op.store 30 (Operand.tmp 7) (Operand.tmp 24), _, _, _, _⟩ :: _) _ _); refine wpList_store_new rfl 30 _ _ rfl rfl (#[.bool s.ml.a, .bool s.ml.p, .int .i64 s.ml.n]) 30 _ _ rfl rfl rfl (by kernel_rfl) rfl (by kernel_rfl) ?_; have lx := heap_at wr (.cells (#[.bool s.ml.a, .bool s.ml.p, .int .i64 s.ml.n]) 30) _ rfl; replace l0 := heap_in (o := .cells (#[.bool s.ml.a, .bool s.ml.p, .int .i64 s.ml.n]) 30) l0; replace l1 := heap_in (o := .cells (#[.bool s.ml.a, .bool s.ml.p, .int .i64 s.ml.n]) 30) l1; replace lq := heap_in (o := .cells (#[.bool s.ml.a, .bool s.ml.p, .int .i64 s.ml.n]) 30) lq; replace bel := bel.alloc bel.size (.cells (#[.bool s.ml.a, .bool s.ml.p, .int .i64 s.ml.n]) 30); clear e0 e1 e2) | ((with_reducible show wpList _ _ _ (⟨some 25, Op.load 30 _, _, _, _, _⟩ :: _) _ _); refine wpList_load_row rfl 30 _ rfl (wr.heap.size) rfl _ (#[.bool s.ml.a, .bool s.ml.p, .int .i64 s.ml.n]) _ _ lx Tryd.underlying30 rfl (by kernel_rfl) ?_))
      refine (L _).mono ?_
      rintro e w3 ⟨rfl, hb⟩
      replace bel := bel.trans (hb.mono bel.size)
      replace l0 := below_lies hb l0 (lies_lt l0)
      replace l1 := below_lies hb l1 (lies_lt l1)
      replace lq := below_lies hb lq (lies_lt lq)
      clear hb
      go_wp2_with fail
      rcases Bool.eq_false_or_eq_true (inB (-1000000) 1000000 vl) with hh | hh
      · have GG := fun w => specLen_any vl w
        rw [hh] at GG
        have hh2 : Hid (inB (-1000000) 1000000 (mlN s b) = true) := by show _ = _; rw [← HVL.out]; exact hh
        clear hh
        refine (GG _).mono ?_
        rintro e w' ⟨rfl, hw9⟩
        have hw9 := hw9.symm
        subst hw9
        go_wp2
        go_roundw
        case rel => exact ⟨1, by omega, by rfl, ⟨fun _ => hh2.out, fun h => by omega, fun h => by omega⟩, bel, l0, l1, lq⟩
        case measure => simp [intOf]
      · have GG := fun w => specLen_any vl w
        rw [hh] at GG
        clear hh
        refine (GG _).mono ?_
        rintro e w' ⟨rfl, hw9⟩
        have hw9 := hw9.symm
        subst hw9
        go_wp2_with ((with_reducible show wpList _ _ _ (⟨none, Op.store 27 (Operand.tmp 4) (Operand.tmp 30), _, _, _, _⟩ :: _) _ _); refine wpList_putA rfl _ _ _ rfl rfl _ 0 3 [.int .i64 0, .int .i64 0, .int .i64 0] _ _ rfl rfl l1 rfl (by kernel_rfl) (by kernel_rfl) (by kernel_rfl) ?_; intro w9 p9 l9 n9; replace l1 := l9.trans (congrArg (fun c => some (Obj.cells c 27 (0, 0))) (show _ = (#[.int .i64 0, .int .i64 0, .int .i64 0] : Array Value) by kernel_rfl)); replace l0 := p9.lies l0 (by omega); replace bel := p9.below bel (by omega); clear l9 n9 p9)
        exact bodyPost_ret (v := .tuple #[.agg (#[.int .i64 0, .int .i64 0, .int .i64 0]), .bool false]) (results_row_tmp Tryd.results8 _ _ _ _ (#[.int .i64 0, .int .i64 0, .int .i64 0]) _ _ _ rfl l1 Tryd.underlying27 rfl (by kernel_rfl) rfl) rfl ⟨rfl, bel⟩
    · have e0 : wr.cell? ⟨w1.heap.size, 3, none⟩ = some (.bool s.mr.a) := (lies_cell lq 3).trans rfl
      have e1 : wr.cell? ⟨w1.heap.size, 4, none⟩ = some (.bool s.mr.p) := (lies_cell lq 4).trans rfl
      have e2 : wr.cell? ⟨w1.heap.size, 5, none⟩ = some (.int .i64 s.mr.n) := (lies_cell lq 5).trans rfl
      go_wp2_with (first | ((with_reducible show wpList _ _ _ (⟨none, Op.store 30 (Operand.tmp 7) (Operand.tmp 24), _, _, _, _⟩ :: _) _ _); refine wpList_store_new rfl 30 _ _ rfl rfl (#[.bool s.mr.a, .bool s.mr.p, .int .i64 s.mr.n]) 30 _ _ rfl rfl rfl (by kernel_rfl) rfl (by kernel_rfl) ?_; have lx := heap_at wr (.cells (#[.bool s.mr.a, .bool s.mr.p, .int .i64 s.mr.n]) 30) _ rfl; replace l0 := heap_in (o := .cells (#[.bool s.mr.a, .bool s.mr.p, .int .i64 s.mr.n]) 30) l0; replace l1 := heap_in (o := .cells (#[.bool s.mr.a, .bool s.mr.p, .int .i64 s.mr.n]) 30) l1; replace lq := heap_in (o := .cells (#[.bool s.mr.a, .bool s.mr.p, .int .i64 s.mr.n]) 30) lq; replace bel := bel.alloc bel.size (.cells (#[.bool s.mr.a, .bool s.mr.p, .int .i64 s.mr.n]) 30); clear e0 e1 e2) | ((with_reducible show wpList _ _ _ (⟨some 25, Op.load 30 _, _, _, _, _⟩ :: _) _ _); refine wpList_load_row rfl 30 _ rfl (wr.heap.size) rfl _ (#[.bool s.mr.a, .bool s.mr.p, .int .i64 s.mr.n]) _ _ lx Tryd.underlying30 rfl (by kernel_rfl) ?_))
      refine (M _).mono ?_
      rintro e w3 ⟨rfl, hb⟩
      replace bel := bel.trans (hb.mono bel.size)
      replace l0 := below_lies hb l0 (lies_lt l0)
      replace l1 := below_lies hb l1 (lies_lt l1)
      replace lq := below_lies hb lq (lies_lt lq)
      clear hb
      go_wp2_with fail
      rcases Bool.eq_false_or_eq_true (inB (-1000000) 1000000 vm) with hh | hh
      · have GG := fun w => specLen_any vm w
        rw [hh] at GG
        have hh2 : Hid (inB (-1000000) 1000000 (mrN s b) = true) := by show _ = _; rw [← HVM.out]; exact hh
        clear hh
        refine (GG _).mono ?_
        rintro e w' ⟨rfl, hw9⟩
        have hw9 := hw9.symm
        subst hw9
        go_wp2
        go_roundw
        case rel => exact ⟨2, by omega, by rfl, ⟨fun _ => hgd.out.1 (by omega), fun _ => hh2.out, fun h => by omega⟩, bel, l0, l1, lq⟩
        case measure => simp [intOf]
      · have GG := fun w => specLen_any vm w
        rw [hh] at GG
        clear hh
        refine (GG _).mono ?_
        rintro e w' ⟨rfl, hw9⟩
        have hw9 := hw9.symm
        subst hw9
        go_wp2_with ((with_reducible show wpList _ _ _ (⟨none, Op.store 27 (Operand.tmp 4) (Operand.tmp 30), _, _, _, _⟩ :: _) _ _); refine wpList_putA rfl _ _ _ rfl rfl _ 0 3 [.int .i64 0, .int .i64 0, .int .i64 0] _ _ rfl rfl l1 rfl (by kernel_rfl) (by kernel_rfl) (by kernel_rfl) ?_; intro w9 p9 l9 n9; replace l1 := l9.trans (congrArg (fun c => some (Obj.cells c 27 (0, 0))) (show _ = (#[.int .i64 0, .int .i64 0, .int .i64 0] : Array Value) by kernel_rfl)); replace l0 := p9.lies l0 (by omega); replace bel := p9.below bel (by omega); clear l9 n9 p9)
        exact bodyPost_ret (v := .tuple #[.agg (#[.int .i64 0, .int .i64 0, .int .i64 0]), .bool false]) (results_row_tmp Tryd.results8 _ _ _ _ (#[.int .i64 0, .int .i64 0, .int .i64 0]) _ _ _ rfl l1 Tryd.underlying27 rfl (by kernel_rfl) rfl) rfl ⟨rfl, bel⟩
    · have e0 : wr.cell? ⟨w1.heap.size, 6, none⟩ = some (.bool s.w.a) := (lies_cell lq 6).trans rfl
      have e1 : wr.cell? ⟨w1.heap.size, 7, none⟩ = some (.bool s.w.p) := (lies_cell lq 7).trans rfl
      have e2 : wr.cell? ⟨w1.heap.size, 8, none⟩ = some (.int .i64 s.w.n) := (lies_cell lq 8).trans rfl
      go_wp2_with (first | ((with_reducible show wpList _ _ _ (⟨none, Op.store 30 (Operand.tmp 7) (Operand.tmp 24), _, _, _, _⟩ :: _) _ _); refine wpList_store_new rfl 30 _ _ rfl rfl (#[.bool s.w.a, .bool s.w.p, .int .i64 s.w.n]) 30 _ _ rfl rfl rfl (by kernel_rfl) rfl (by kernel_rfl) ?_; have lx := heap_at wr (.cells (#[.bool s.w.a, .bool s.w.p, .int .i64 s.w.n]) 30) _ rfl; replace l0 := heap_in (o := .cells (#[.bool s.w.a, .bool s.w.p, .int .i64 s.w.n]) 30) l0; replace l1 := heap_in (o := .cells (#[.bool s.w.a, .bool s.w.p, .int .i64 s.w.n]) 30) l1; replace lq := heap_in (o := .cells (#[.bool s.w.a, .bool s.w.p, .int .i64 s.w.n]) 30) lq; replace bel := bel.alloc bel.size (.cells (#[.bool s.w.a, .bool s.w.p, .int .i64 s.w.n]) 30); clear e0 e1 e2) | ((with_reducible show wpList _ _ _ (⟨some 25, Op.load 30 _, _, _, _, _⟩ :: _) _ _); refine wpList_load_row rfl 30 _ rfl (wr.heap.size) rfl _ (#[.bool s.w.a, .bool s.w.p, .int .i64 s.w.n]) _ _ lx Tryd.underlying30 rfl (by kernel_rfl) ?_))
      refine (D _).mono ?_
      rintro e w3 ⟨rfl, hb⟩
      replace bel := bel.trans (hb.mono bel.size)
      replace l0 := below_lies hb l0 (lies_lt l0)
      replace l1 := below_lies hb l1 (lies_lt l1)
      replace lq := below_lies hb lq (lies_lt lq)
      clear hb
      go_wp2_with fail
      rcases Bool.eq_false_or_eq_true (inB (-1000000) 1000000 vd) with hh | hh
      · have GG := fun w => specLen_any vd w
        rw [hh] at GG
        have hh2 : Hid (inB (-1000000) 1000000 (wdN s b) = true) := by show _ = _; rw [← HVD.out]; exact hh
        clear hh
        refine (GG _).mono ?_
        rintro e w' ⟨rfl, hw9⟩
        have hw9 := hw9.symm
        subst hw9
        go_wp2
        go_roundw
        case rel => exact ⟨3, by omega, by rfl, ⟨fun _ => hgd.out.1 (by omega), fun _ => hgd.out.2.1 (by omega), fun _ => hh2.out⟩, bel, l0, l1, lq⟩
        case measure => simp [intOf]
      · have GG := fun w => specLen_any vd w
        rw [hh] at GG
        clear hh
        refine (GG _).mono ?_
        rintro e w' ⟨rfl, hw9⟩
        have hw9 := hw9.symm
        subst hw9
        go_wp2_with ((with_reducible show wpList _ _ _ (⟨none, Op.store 27 (Operand.tmp 4) (Operand.tmp 30), _, _, _, _⟩ :: _) _ _); refine wpList_putA rfl _ _ _ rfl rfl _ 0 3 [.int .i64 0, .int .i64 0, .int .i64 0] _ _ rfl rfl l1 rfl (by kernel_rfl) (by kernel_rfl) (by kernel_rfl) ?_; intro w9 p9 l9 n9; replace l1 := l9.trans (congrArg (fun c => some (Obj.cells c 27 (0, 0))) (show _ = (#[.int .i64 0, .int .i64 0, .int .i64 0] : Array Value) by kernel_rfl)); replace l0 := p9.lies l0 (by omega); replace bel := p9.below bel (by omega); clear l9 n9 p9)
        exact bodyPost_ret (v := .tuple #[.agg (#[.int .i64 0, .int .i64 0, .int .i64 0]), .bool false]) (results_row_tmp Tryd.results8 _ _ _ _ (#[.int .i64 0, .int .i64 0, .int .i64 0]) _ _ _ rfl l1 Tryd.underlying27 rfl (by kernel_rfl) rfl) rfl ⟨rfl, bel⟩
    · exact absurd (good3_ok HG.out hgd.out) (by rw [HN.out]; decide)
set_option maxRecDepth 100000 in
set_option maxHeartbeats 8000000 in
theorem blockS_y (s : St) (b : Int) (w : World) (ha : okA s b = true)  :
    Calls Tryd.prog 8 #[.agg #[.int .i64 s.sh, .int .i64 s.fl, .int .i64 s.cl, .bool s.w.a, .bool s.w.p, .int .i64 s.w.n, .bool s.h.a, .bool s.h.p, .int .i64 s.h.n, .int .i64 s.mn, .int .i64 s.mx, .int .i64 s.mt, .bool s.mr.a, .bool s.mr.p, .int .i64 s.mr.n, .int .i64 s.mb, .bool s.ml.a, .bool s.ml.p, .int .i64 s.ml.n, .int .i64 s.bo, .int .i64 s.pa, .int .i64 s.wh, .int .i64 s.al, .int .i64 s.lh, .int .i64 s.ri, .int .i64 s.dn], .int .i64 b] w fun e w' => e = .returned (.tuple #[.agg (#[.int .i64 (blL s b), .int .i64 (blW s b), .int .i64 (blR s b)]), .bool true]) ∧ Below w.heap.size w w' := by
  have l0 : ((w.alloc (.cells (#[.int .i64 s.sh, .int .i64 s.fl, .int .i64 s.cl, .bool s.w.a, .bool s.w.p, .int .i64 s.w.n, .bool s.h.a, .bool s.h.p, .int .i64 s.h.n, .int .i64 s.mn, .int .i64 s.mx, .int .i64 s.mt, .bool s.mr.a, .bool s.mr.p, .int .i64 s.mr.n, .int .i64 s.mb, .bool s.ml.a, .bool s.ml.p, .int .i64 s.ml.n, .int .i64 s.bo, .int .i64 s.pa, .int .i64 s.wh, .int .i64 s.al, .int .i64 s.lh, .int .i64 s.ri, .int .i64 s.dn]) 32)).alloc (.cells (#[.int .i64 0, .int .i64 0, .int .i64 0]) 27)).heap[w.heap.size]? = some (.cells (stCells s) 32 (0, 0)) := heap_in (heap_at _ _ _ rfl)
  have l1 : ((w.alloc (.cells (#[.int .i64 s.sh, .int .i64 s.fl, .int .i64 s.cl, .bool s.w.a, .bool s.w.p, .int .i64 s.w.n, .bool s.h.a, .bool s.h.p, .int .i64 s.h.n, .int .i64 s.mn, .int .i64 s.mx, .int .i64 s.mt, .bool s.mr.a, .bool s.mr.p, .int .i64 s.mr.n, .int .i64 s.mb, .bool s.ml.a, .bool s.ml.p, .int .i64 s.ml.n, .int .i64 s.bo, .int .i64 s.pa, .int .i64 s.wh, .int .i64 s.al, .int .i64 s.lh, .int .i64 s.ri, .int .i64 s.dn]) 32)).alloc (.cells (#[.int .i64 0, .int .i64 0, .int .i64 0]) 27)).heap[w.heap.size + 1]? = some (.cells (#[.int .i64 0, .int .i64 0, .int .i64 0]) 27 (0, 0)) := heap_at _ _ _ (by simp)
  have bel : Below w.heap.size w ((w.alloc (.cells (#[.int .i64 s.sh, .int .i64 s.fl, .int .i64 s.cl, .bool s.w.a, .bool s.w.p, .int .i64 s.w.n, .bool s.h.a, .bool s.h.p, .int .i64 s.h.n, .int .i64 s.mn, .int .i64 s.mx, .int .i64 s.mt, .bool s.mr.a, .bool s.mr.p, .int .i64 s.mr.n, .int .i64 s.mb, .bool s.ml.a, .bool s.ml.p, .int .i64 s.ml.n, .int .i64 s.bo, .int .i64 s.pa, .int .i64 s.wh, .int .i64 s.al, .int .i64 s.lh, .int .i64 s.ri, .int .i64 s.dn]) 32)).alloc (.cells (#[.int .i64 0, .int .i64 0, .int .i64 0]) 27)) := ((Below.refl _ _).alloc (Nat.le_refl _) _).alloc (by simp) _
  have GS := fun w => l6Good_any s b w
  have hg := gd_of ha
  have hg' := hg
  unfold gdB at hg'
  rw [Bool.and_eq_true] at hg'
  obtain ⟨k1, k2⟩ := inB_yes hg'.2
  obtain ⟨z1, z2, z3⟩ := style_sz hg'.1
  have L := fun w => l6Size_any s.ml.a s.ml.p s.ml.n b w k1 k2 (szB_bd z1).1 (szB_bd z1).2
  have M := fun w => l6Size_any s.mr.a s.mr.p s.mr.n b w k1 k2 (szB_bd z2).1 (szB_bd z2).2
  have D := fun w => l6Size_any s.w.a s.w.p s.w.n b w k1 k2 (szB_bd z3).1 (szB_bd z3).2
  rw [show szN s.ml.p s.ml.n b = mlN s b from rfl] at L
  rw [show szN s.mr.p s.mr.n b = mrN s b from rfl] at M
  rw [show szN s.w.p s.w.n b = wdN s b from rfl] at D
  rw [hg] at GS
  obtain ⟨_, _, i1, i2, i3⟩ := okA_yes ha
  have INN := fun w => l6Across_any s b w ha
  have GL := fun w => specLen_any (mlN s b) w
  have GM := fun w => specLen_any (mrN s b) w
  have GD := fun w => specLen_any (wdN s b) w
  rw [i1] at GL
  rw [i3] at GM
  rw [i2] at GD
  generalize blL s b = r0 at INN ⊢
  generalize blW s b = r1 at INN ⊢
  generalize blR s b = r2 at INN ⊢
  generalize mlN s b = vl at L GL
  generalize mrN s b = vm at M GM
  generalize wdN s b = vd at D GD
  clear hg hg' z1 z2 z3 ha i1 i2 i3 k1 k2
  go_enter Tryd.func8, Tryd.ntmps8
  go_wp2_with ((with_reducible show wpList _ _ _ (⟨some 8, Op.load 32 _, _, _, _, _⟩ :: _) _ _); refine wpList_load_row rfl 32 _ rfl (w.heap.size) rfl _ (stCells s) _ _ l0 Tryd.underlying32 rfl (by kernel_rfl) ?_)
  refine (GS _).mono ?_
  rintro e w1 ⟨rfl, hb⟩
  replace bel := bel.trans (hb.mono bel.size)
  replace l0 := below_lies hb l0 (lies_lt l0)
  replace l1 := below_lies hb l1 (lies_lt l1)
  clear hb
  have z1 := lies_lt l1
  have c16 : w1.cell? ⟨w.heap.size, 16, none⟩ = some (.bool s.ml.a) := (lies_cell l0 16).trans rfl
  have c17 : w1.cell? ⟨w.heap.size, 17, none⟩ = some (.bool s.ml.p) := (lies_cell l0 17).trans rfl
  have c18 : w1.cell? ⟨w.heap.size, 18, none⟩ = some (.int .i64 s.ml.n) := (lies_cell l0 18).trans rfl
  have c12 : w1.cell? ⟨w.heap.size, 12, none⟩ = some (.bool s.mr.a) := (lies_cell l0 12).trans rfl
  have c13 : w1.cell? ⟨w.heap.size, 13, none⟩ = some (.bool s.mr.p) := (lies_cell l0 13).trans rfl
  have c14 : w1.cell? ⟨w.heap.size, 14, none⟩ = some (.int .i64 s.mr.n) := (lies_cell l0 14).trans rfl
  have c3 : w1.cell? ⟨w.heap.size, 3, none⟩ = some (.bool s.w.a) := (lies_cell l0 3).trans rfl
  have c4 : w1.cell? ⟨w.heap.size, 4, none⟩ = some (.bool s.w.p) := (lies_cell l0 4).trans rfl
  have c5 : w1.cell? ⟨w.heap.size, 5, none⟩ = some (.int .i64 s.w.n) := (lies_cell l0 5).trans rfl
  go_wp2
  have lq := heap_at w1 (.cells (#[.bool s.ml.a, .bool s.ml.p, .int .i64 s.ml.n, .bool s.mr.a, .bool s.mr.p, .int .i64 s.mr.n, .bool s.w.a, .bool s.w.p, .int .i64 s.w.n]) 30) _ rfl
  replace l0 := heap_in (o := .cells (#[.bool s.ml.a, .bool s.ml.p, .int .i64 s.ml.n, .bool s.mr.a, .bool s.mr.p, .int .i64 s.mr.n, .bool s.w.a, .bool s.w.p, .int .i64 s.w.n]) 30) l0
  replace l1 := heap_in (o := .cells (#[.bool s.ml.a, .bool s.ml.p, .int .i64 s.ml.n, .bool s.mr.a, .bool s.mr.p, .int .i64 s.mr.n, .bool s.w.a, .bool s.w.p, .int .i64 s.w.n]) 30) l1
  replace bel := bel.alloc bel.size (.cells (#[.bool s.ml.a, .bool s.ml.p, .int .i64 s.ml.n, .bool s.mr.a, .bool s.mr.p, .int .i64 s.mr.n, .bool s.w.a, .bool s.w.p, .int .i64 s.w.n]) 30)
  clear c16 c17 c18 c12 c13 c14 c3 c4 c5
  go_loopw [21] (fun i wr => ∃ k : Nat, k ≤ 3 ∧ i = .int .i64 k ∧ Below w.heap.size w wr ∧ wr.heap[w.heap.size]? = some (.cells (stCells s) 32 (0, 0)) ∧ wr.heap[w.heap.size + 1]? = some (.cells (#[.int .i64 0, .int .i64 0, .int .i64 0]) 27 (0, 0)) ∧ wr.heap[w1.heap.size]? = some (.cells (#[.bool s.ml.a, .bool s.ml.p, .int .i64 s.ml.n, .bool s.mr.a, .bool s.mr.p, .int .i64 s.mr.n, .bool s.w.a, .bool s.w.p, .int .i64 s.w.n]) 30 (0, 0))) (fun i _ => 3 - (intOf i).toNat)
  case atStart => exact ⟨0, by omega, rfl, bel, l0, l1, lq⟩
  case round =>
    clear l0 l1 lq bel
    obtain ⟨k, hk, rfl, bel, l0, l1, lq⟩ := hrel
    have z2 := lies_lt lq
    rcases (by omega : k = 0 ∨ k = 1 ∨ k = 2 ∨ k = 3) with rfl | rfl | rfl | rfl
    · have e0 : wr.cell? ⟨w1.heap.size, 0, none⟩ = some (.bool s.ml.a) := (lies_cell lq 0).trans rfl
      have e1 : wr.cell? ⟨w1.heap.size, 1, none⟩ = some (.bool s.ml.p) := (lies_cell lq 1).trans rfl
      have e2 : wr.cell? ⟨w1.heap.size, 2, none⟩ = some (.int .i64 s.ml.n) := (lies_cell lq 2).trans rfl
      go_wp2_with (first | ((with_reducible show wpList _ _ _ (⟨none, Op.store 30 (Operand.tmp 7) (Operand.tmp 24), _, _, _, _⟩ :: _) _ _); refine wpList_store_new rfl 30 _ _ rfl rfl (#[.bool s.ml.a, .bool s.ml.p, .int .i64 s.ml.n]) 30 _ _ rfl rfl rfl (by kernel_rfl) rfl (by kernel_rfl) ?_; have lx := heap_at wr (.cells (#[.bool s.ml.a, .bool s.ml.p, .int .i64 s.ml.n]) 30) _ rfl; replace l0 := heap_in (o := .cells (#[.bool s.ml.a, .bool s.ml.p, .int .i64 s.ml.n]) 30) l0; replace l1 := heap_in (o := .cells (#[.bool s.ml.a, .bool s.ml.p, .int .i64 s.ml.n]) 30) l1; replace lq := heap_in (o := .cells (#[.bool s.ml.a, .bool s.ml.p, .int .i64 s.ml.n]) 30) lq; replace bel := bel.alloc bel.size (.cells (#[.bool s.ml.a, .bool s.ml.p, .int .i64 s.ml.n]) 30); clear e0 e1 e2) | ((with_reducible show wpList _ _ _ (⟨some 25, Op.load 30 _, _, _, _, _⟩ :: _) _ _); refine wpList_load_row rfl 30 _ rfl (wr.heap.size) rfl _ (#[.bool s.ml.a, .bool s.ml.p, .int .i64 s.ml.n]) _ _ lx Tryd.underlying30 rfl (by kernel_rfl) ?_))
      refine (L _).mono ?_
      rintro e w3 ⟨rfl, hb⟩
      replace bel := bel.trans (hb.mono bel.size)
      replace l0 := below_lies hb l0 (lies_lt l0)
      replace l1 := below_lies hb l1 (lies_lt l1)
      replace lq := below_lies hb lq (lies_lt lq)
      clear hb
      go_wp2_with fail
      refine (GL _).mono ?_
      rintro e w' ⟨rfl, hw9⟩
      have hw9 := hw9.symm
      subst hw9
      go_wp2
      go_roundw
      case rel => exact ⟨1, by omega, by rfl, bel, l0, l1, lq⟩
      case measure => simp [intOf]
    · have e0 : wr.cell? ⟨w1.heap.size, 3, none⟩ = some (.bool s.mr.a) := (lies_cell lq 3).trans rfl
      have e1 : wr.cell? ⟨w1.heap.size, 4, none⟩ = some (.bool s.mr.p) := (lies_cell lq 4).trans rfl
      have e2 : wr.cell? ⟨w1.heap.size, 5, none⟩ = some (.int .i64 s.mr.n) := (lies_cell lq 5).trans rfl
      go_wp2_with (first | ((with_reducible show wpList _ _ _ (⟨none, Op.store 30 (Operand.tmp 7) (Operand.tmp 24), _, _, _, _⟩ :: _) _ _); refine wpList_store_new rfl 30 _ _ rfl rfl (#[.bool s.mr.a, .bool s.mr.p, .int .i64 s.mr.n]) 30 _ _ rfl rfl rfl (by kernel_rfl) rfl (by kernel_rfl) ?_; have lx := heap_at wr (.cells (#[.bool s.mr.a, .bool s.mr.p, .int .i64 s.mr.n]) 30) _ rfl; replace l0 := heap_in (o := .cells (#[.bool s.mr.a, .bool s.mr.p, .int .i64 s.mr.n]) 30) l0; replace l1 := heap_in (o := .cells (#[.bool s.mr.a, .bool s.mr.p, .int .i64 s.mr.n]) 30) l1; replace lq := heap_in (o := .cells (#[.bool s.mr.a, .bool s.mr.p, .int .i64 s.mr.n]) 30) lq; replace bel := bel.alloc bel.size (.cells (#[.bool s.mr.a, .bool s.mr.p, .int .i64 s.mr.n]) 30); clear e0 e1 e2) | ((with_reducible show wpList _ _ _ (⟨some 25, Op.load 30 _, _, _, _, _⟩ :: _) _ _); refine wpList_load_row rfl 30 _ rfl (wr.heap.size) rfl _ (#[.bool s.mr.a, .bool s.mr.p, .int .i64 s.mr.n]) _ _ lx Tryd.underlying30 rfl (by kernel_rfl) ?_))
      refine (M _).mono ?_
      rintro e w3 ⟨rfl, hb⟩
      replace bel := bel.trans (hb.mono bel.size)
      replace l0 := below_lies hb l0 (lies_lt l0)
      replace l1 := below_lies hb l1 (lies_lt l1)
      replace lq := below_lies hb lq (lies_lt lq)
      clear hb
      go_wp2_with fail
      refine (GM _).mono ?_
      rintro e w' ⟨rfl, hw9⟩
      have hw9 := hw9.symm
      subst hw9
      go_wp2
      go_roundw
      case rel => exact ⟨2, by omega, by rfl, bel, l0, l1, lq⟩
      case measure => simp [intOf]
    · have e0 : wr.cell? ⟨w1.heap.size, 6, none⟩ = some (.bool s.w.a) := (lies_cell lq 6).trans rfl
      have e1 : wr.cell? ⟨w1.heap.size, 7, none⟩ = some (.bool s.w.p) := (lies_cell lq 7).trans rfl
      have e2 : wr.cell? ⟨w1.heap.size, 8, none⟩ = some (.int .i64 s.w.n) := (lies_cell lq 8).trans rfl
      go_wp2_with (first | ((with_reducible show wpList _ _ _ (⟨none, Op.store 30 (Operand.tmp 7) (Operand.tmp 24), _, _, _, _⟩ :: _) _ _); refine wpList_store_new rfl 30 _ _ rfl rfl (#[.bool s.w.a, .bool s.w.p, .int .i64 s.w.n]) 30 _ _ rfl rfl rfl (by kernel_rfl) rfl (by kernel_rfl) ?_; have lx := heap_at wr (.cells (#[.bool s.w.a, .bool s.w.p, .int .i64 s.w.n]) 30) _ rfl; replace l0 := heap_in (o := .cells (#[.bool s.w.a, .bool s.w.p, .int .i64 s.w.n]) 30) l0; replace l1 := heap_in (o := .cells (#[.bool s.w.a, .bool s.w.p, .int .i64 s.w.n]) 30) l1; replace lq := heap_in (o := .cells (#[.bool s.w.a, .bool s.w.p, .int .i64 s.w.n]) 30) lq; replace bel := bel.alloc bel.size (.cells (#[.bool s.w.a, .bool s.w.p, .int .i64 s.w.n]) 30); clear e0 e1 e2) | ((with_reducible show wpList _ _ _ (⟨some 25, Op.load 30 _, _, _, _, _⟩ :: _) _ _); refine wpList_load_row rfl 30 _ rfl (wr.heap.size) rfl _ (#[.bool s.w.a, .bool s.w.p, .int .i64 s.w.n]) _ _ lx Tryd.underlying30 rfl (by kernel_rfl) ?_))
      refine (D _).mono ?_
      rintro e w3 ⟨rfl, hb⟩
      replace bel := bel.trans (hb.mono bel.size)
      replace l0 := below_lies hb l0 (lies_lt l0)
      replace l1 := below_lies hb l1 (lies_lt l1)
      replace lq := below_lies hb lq (lies_lt lq)
      clear hb
      go_wp2_with fail
      refine (GD _).mono ?_
      rintro e w' ⟨rfl, hw9⟩
      have hw9 := hw9.symm
      subst hw9
      go_wp2
      go_roundw
      case rel => exact ⟨3, by omega, by rfl, bel, l0, l1, lq⟩
      case measure => simp [intOf]
    · go_wp2_with ((with_reducible show wpList _ _ _ (⟨some 32, Op.load 32 _, _, _, _, _⟩ :: _) _ _); refine wpList_load_row rfl 32 _ rfl (w.heap.size) rfl _ (stCells s) _ _ l0 Tryd.underlying32 rfl (by kernel_rfl) ?_)
      refine (INN _).mono ?_
      rintro e w4 ⟨rfl, hb⟩
      replace bel := bel.trans (hb.mono bel.size)
      replace l0 := below_lies hb l0 (lies_lt l0)
      replace l1 := below_lies hb l1 (lies_lt l1)
      clear hb
      go_wp2_with ((with_reducible show wpList _ _ _ (⟨none, Op.store 27 (Operand.tmp 4) (Operand.tmp 34), _, _, _, _⟩ :: _) _ _); refine wpList_putA rfl _ _ _ rfl rfl _ 0 3 [.int .i64 r0, .int .i64 r1, .int .i64 r2] _ _ rfl rfl l1 rfl (by kernel_rfl) (by kernel_rfl) (by kernel_rfl) ?_; intro w9 p9 l9 n9; replace l1 := l9.trans (congrArg (fun c => some (Obj.cells c 27 (0, 0))) (show _ = (#[.int .i64 r0, .int .i64 r1, .int .i64 r2] : Array Value) by kernel_rfl)); replace bel := p9.below bel (by omega); clear l9 n9 p9)
      exact bodyPost_ret (v := .tuple #[.agg (#[.int .i64 r0, .int .i64 r1, .int .i64 r2]), .bool true]) (results_row_tmp Tryd.results8 _ _ _ _ (#[.int .i64 r0, .int .i64 r1, .int .i64 r2]) _ _ _ rfl l1 Tryd.underlying27 rfl (by kernel_rfl) rfl) rfl ⟨rfl, bel⟩
set_option maxRecDepth 100000 in
set_option maxHeartbeats 8000000 in
theorem floatS_g (s : St) (b nr wi : Int) (w : World) (hg : gdB s b = false) :
    Calls Tryd.prog 12 #[.agg #[.int .i64 s.sh, .int .i64 s.fl, .int .i64 s.cl, .bool s.w.a, .bool s.w.p, .int .i64 s.w.n, .bool s.h.a, .bool s.h.p, .int .i64 s.h.n, .int .i64 s.mn, .int .i64 s.mx, .int .i64 s.mt, .bool s.mr.a, .bool s.mr.p, .int .i64 s.mr.n, .int .i64 s.mb, .bool s.ml.a, .bool s.ml.p, .int .i64 s.ml.n, .int .i64 s.bo, .int .i64 s.pa, .int .i64 s.wh, .int .i64 s.al, .int .i64 s.lh, .int .i64 s.ri, .int .i64 s.dn], .int .i64 b, .int .i64 nr, .int .i64 wi] w fun e w' => e = .returned (.tuple #[.agg (#[.int .i64 0, .int .i64 0, .int .i64 0]), .bool false]) ∧ Below w.heap.size w w' := by
  have l0 : ((w.alloc (.cells (#[.int .i64 s.sh, .int .i64 s.fl, .int .i64 s.cl, .bool s.w.a, .bool s.w.p, .int .i64 s.w.n, .bool s.h.a, .bool s.h.p, .int .i64 s.h.n, .int .i64 s.mn, .int .i64 s.mx, .int .i64 s.mt, .bool s.mr.a, .bool s.mr.p, .int .i64 s.mr.n, .int .i64 s.mb, .bool s.ml.a, .bool s.ml.p, .int .i64 s.ml.n, .int .i64 s.bo, .int .i64 s.pa, .int .i64 s.wh, .int .i64 s.al, .int .i64 s.lh, .int .i64 s.ri, .int .i64 s.dn]) 32)).alloc (.cells (#[.int .i64 0, .int .i64 0, .int .i64 0]) 27)).heap[w.heap.size]? = some (.cells (stCells s) 32 (0, 0)) := heap_in (heap_at _ _ _ rfl)
  have l1 : ((w.alloc (.cells (#[.int .i64 s.sh, .int .i64 s.fl, .int .i64 s.cl, .bool s.w.a, .bool s.w.p, .int .i64 s.w.n, .bool s.h.a, .bool s.h.p, .int .i64 s.h.n, .int .i64 s.mn, .int .i64 s.mx, .int .i64 s.mt, .bool s.mr.a, .bool s.mr.p, .int .i64 s.mr.n, .int .i64 s.mb, .bool s.ml.a, .bool s.ml.p, .int .i64 s.ml.n, .int .i64 s.bo, .int .i64 s.pa, .int .i64 s.wh, .int .i64 s.al, .int .i64 s.lh, .int .i64 s.ri, .int .i64 s.dn]) 32)).alloc (.cells (#[.int .i64 0, .int .i64 0, .int .i64 0]) 27)).heap[w.heap.size + 1]? = some (.cells (#[.int .i64 0, .int .i64 0, .int .i64 0]) 27 (0, 0)) := heap_at _ _ _ (by simp)
  have bel : Below w.heap.size w ((w.alloc (.cells (#[.int .i64 s.sh, .int .i64 s.fl, .int .i64 s.cl, .bool s.w.a, .bool s.w.p, .int .i64 s.w.n, .bool s.h.a, .bool s.h.p, .int .i64 s.h.n, .int .i64 s.mn, .int .i64 s.mx, .int .i64 s.mt, .bool s.mr.a, .bool s.mr.p, .int .i64 s.mr.n, .int .i64 s.mb, .bool s.ml.a, .bool s.ml.p, .int .i64 s.ml.n, .int .i64 s.bo, .int .i64 s.pa, .int .i64 s.wh, .int .i64 s.al, .int .i64 s.lh, .int .i64 s.ri, .int .i64 s.dn]) 32)).alloc (.cells (#[.int .i64 0, .int .i64 0, .int .i64 0]) 27)) := ((Below.refl _ _).alloc (Nat.le_refl _) _).alloc (by simp) _
  have GS := fun w => l6Good_any s b w
  rw [hg] at GS
  clear hg
  go_enter Tryd.func12, Tryd.ntmps12
  go_wp2_with ((with_reducible show wpList _ _ _ (⟨some 12, Op.load 32 _, _, _, _, _⟩ :: _) _ _); refine wpList_load_row rfl 32 _ rfl (w.heap.size) rfl _ (stCells s) _ _ l0 Tryd.underlying32 rfl (by kernel_rfl) ?_)
  refine (GS _).mono ?_
  rintro e w1 ⟨rfl, hb⟩
  replace bel := bel.trans (hb.mono bel.size)
  replace l0 := below_lies hb l0 (lies_lt l0)
  replace l1 := below_lies hb l1 (lies_lt l1)
  clear hb
  have z1 := lies_lt l1
  go_wp2_with ((with_reducible show wpList _ _ _ (⟨none, Op.store 27 (Operand.tmp 8) (Operand.tmp 26), _, _, _, _⟩ :: _) _ _); refine wpList_putA rfl _ _ _ rfl rfl _ 0 3 [.int .i64 0, .int .i64 0, .int .i64 0] _ _ rfl rfl l1 rfl (by kernel_rfl) (by kernel_rfl) (by kernel_rfl) ?_; intro w9 p9 l9 n9; replace l1 := l9.trans (congrArg (fun c => some (Obj.cells c 27 (0, 0))) (show _ = (#[.int .i64 0, .int .i64 0, .int .i64 0] : Array Value) by kernel_rfl)); replace l0 := p9.lies l0 (by omega); replace bel := p9.below bel (by omega); clear l9 n9 p9)
  exact bodyPost_ret (v := .tuple #[.agg (#[.int .i64 0, .int .i64 0, .int .i64 0]), .bool false]) (results_row_tmp Tryd.results12 _ _ _ _ (#[.int .i64 0, .int .i64 0, .int .i64 0]) _ _ _ rfl l1 Tryd.underlying27 rfl (by kernel_rfl) rfl) rfl ⟨rfl, bel⟩
set_option maxRecDepth 100000 in
set_option maxHeartbeats 8000000 in
theorem floatS_n (s : St) (b nr wi : Int) (w : World) (hg : gdB s b = true) (h1 : inB 0 1000000 nr = false) :
    Calls Tryd.prog 12 #[.agg #[.int .i64 s.sh, .int .i64 s.fl, .int .i64 s.cl, .bool s.w.a, .bool s.w.p, .int .i64 s.w.n, .bool s.h.a, .bool s.h.p, .int .i64 s.h.n, .int .i64 s.mn, .int .i64 s.mx, .int .i64 s.mt, .bool s.mr.a, .bool s.mr.p, .int .i64 s.mr.n, .int .i64 s.mb, .bool s.ml.a, .bool s.ml.p, .int .i64 s.ml.n, .int .i64 s.bo, .int .i64 s.pa, .int .i64 s.wh, .int .i64 s.al, .int .i64 s.lh, .int .i64 s.ri, .int .i64 s.dn], .int .i64 b, .int .i64 nr, .int .i64 wi] w fun e w' => e = .returned (.tuple #[.agg (#[.int .i64 0, .int .i64 0, .int .i64 0]), .bool false]) ∧ Below w.heap.size w w' := by
  have l0 : ((w.alloc (.cells (#[.int .i64 s.sh, .int .i64 s.fl, .int .i64 s.cl, .bool s.w.a, .bool s.w.p, .int .i64 s.w.n, .bool s.h.a, .bool s.h.p, .int .i64 s.h.n, .int .i64 s.mn, .int .i64 s.mx, .int .i64 s.mt, .bool s.mr.a, .bool s.mr.p, .int .i64 s.mr.n, .int .i64 s.mb, .bool s.ml.a, .bool s.ml.p, .int .i64 s.ml.n, .int .i64 s.bo, .int .i64 s.pa, .int .i64 s.wh, .int .i64 s.al, .int .i64 s.lh, .int .i64 s.ri, .int .i64 s.dn]) 32)).alloc (.cells (#[.int .i64 0, .int .i64 0, .int .i64 0]) 27)).heap[w.heap.size]? = some (.cells (stCells s) 32 (0, 0)) := heap_in (heap_at _ _ _ rfl)
  have l1 : ((w.alloc (.cells (#[.int .i64 s.sh, .int .i64 s.fl, .int .i64 s.cl, .bool s.w.a, .bool s.w.p, .int .i64 s.w.n, .bool s.h.a, .bool s.h.p, .int .i64 s.h.n, .int .i64 s.mn, .int .i64 s.mx, .int .i64 s.mt, .bool s.mr.a, .bool s.mr.p, .int .i64 s.mr.n, .int .i64 s.mb, .bool s.ml.a, .bool s.ml.p, .int .i64 s.ml.n, .int .i64 s.bo, .int .i64 s.pa, .int .i64 s.wh, .int .i64 s.al, .int .i64 s.lh, .int .i64 s.ri, .int .i64 s.dn]) 32)).alloc (.cells (#[.int .i64 0, .int .i64 0, .int .i64 0]) 27)).heap[w.heap.size + 1]? = some (.cells (#[.int .i64 0, .int .i64 0, .int .i64 0]) 27 (0, 0)) := heap_at _ _ _ (by simp)
  have bel : Below w.heap.size w ((w.alloc (.cells (#[.int .i64 s.sh, .int .i64 s.fl, .int .i64 s.cl, .bool s.w.a, .bool s.w.p, .int .i64 s.w.n, .bool s.h.a, .bool s.h.p, .int .i64 s.h.n, .int .i64 s.mn, .int .i64 s.mx, .int .i64 s.mt, .bool s.mr.a, .bool s.mr.p, .int .i64 s.mr.n, .int .i64 s.mb, .bool s.ml.a, .bool s.ml.p, .int .i64 s.ml.n, .int .i64 s.bo, .int .i64 s.pa, .int .i64 s.wh, .int .i64 s.al, .int .i64 s.lh, .int .i64 s.ri, .int .i64 s.dn]) 32)).alloc (.cells (#[.int .i64 0, .int .i64 0, .int .i64 0]) 27)) := ((Below.refl _ _).alloc (Nat.le_refl _) _).alloc (by simp) _
  have GS := fun w => l6Good_any s b w
  have E1 := fun w => l1In_any nr 0 1000000 w
  have E2 := fun w => l1In_any wi 0 1000000 w
  rw [h1] at E1
  clear h1
  rw [hg] at GS
  clear hg
  go_enter Tryd.func12, Tryd.ntmps12
  go_wp2_with ((with_reducible show wpList _ _ _ (⟨some 12, Op.load 32 _, _, _, _, _⟩ :: _) _ _); refine wpList_load_row rfl 32 _ rfl (w.heap.size) rfl _ (stCells s) _ _ l0 Tryd.underlying32 rfl (by kernel_rfl) ?_)
  refine (GS _).mono ?_
  rintro e w1 ⟨rfl, hb⟩
  replace bel := bel.trans (hb.mono bel.size)
  replace l0 := below_lies hb l0 (lies_lt l0)
  replace l1 := below_lies hb l1 (lies_lt l1)
  clear hb
  have z1 := lies_lt l1
  go_wp2_with fail
  refine (E1 _).mono ?_
  rintro e w' ⟨rfl, hw9⟩
  have hw9 := hw9.symm
  subst hw9
  go_wp2_with ((with_reducible show wpList _ _ _ (⟨none, Op.store 27 (Operand.tmp 8) (Operand.tmp 26), _, _, _, _⟩ :: _) _ _); refine wpList_putA rfl _ _ _ rfl rfl _ 0 3 [.int .i64 0, .int .i64 0, .int .i64 0] _ _ rfl rfl l1 rfl (by kernel_rfl) (by kernel_rfl) (by kernel_rfl) ?_; intro w9 p9 l9 n9; replace l1 := l9.trans (congrArg (fun c => some (Obj.cells c 27 (0, 0))) (show _ = (#[.int .i64 0, .int .i64 0, .int .i64 0] : Array Value) by kernel_rfl)); replace l0 := p9.lies l0 (by omega); replace bel := p9.below bel (by omega); clear l9 n9 p9)
  exact bodyPost_ret (v := .tuple #[.agg (#[.int .i64 0, .int .i64 0, .int .i64 0]), .bool false]) (results_row_tmp Tryd.results12 _ _ _ _ (#[.int .i64 0, .int .i64 0, .int .i64 0]) _ _ _ rfl l1 Tryd.underlying27 rfl (by kernel_rfl) rfl) rfl ⟨rfl, bel⟩
set_option maxRecDepth 100000 in
set_option maxHeartbeats 8000000 in
theorem floatS_w (s : St) (b nr wi : Int) (w : World) (hg : gdB s b = true) (h1 : inB 0 1000000 nr = true) (h2 : inB 0 1000000 wi = false) :
    Calls Tryd.prog 12 #[.agg #[.int .i64 s.sh, .int .i64 s.fl, .int .i64 s.cl, .bool s.w.a, .bool s.w.p, .int .i64 s.w.n, .bool s.h.a, .bool s.h.p, .int .i64 s.h.n, .int .i64 s.mn, .int .i64 s.mx, .int .i64 s.mt, .bool s.mr.a, .bool s.mr.p, .int .i64 s.mr.n, .int .i64 s.mb, .bool s.ml.a, .bool s.ml.p, .int .i64 s.ml.n, .int .i64 s.bo, .int .i64 s.pa, .int .i64 s.wh, .int .i64 s.al, .int .i64 s.lh, .int .i64 s.ri, .int .i64 s.dn], .int .i64 b, .int .i64 nr, .int .i64 wi] w fun e w' => e = .returned (.tuple #[.agg (#[.int .i64 0, .int .i64 0, .int .i64 0]), .bool false]) ∧ Below w.heap.size w w' := by
  have l0 : ((w.alloc (.cells (#[.int .i64 s.sh, .int .i64 s.fl, .int .i64 s.cl, .bool s.w.a, .bool s.w.p, .int .i64 s.w.n, .bool s.h.a, .bool s.h.p, .int .i64 s.h.n, .int .i64 s.mn, .int .i64 s.mx, .int .i64 s.mt, .bool s.mr.a, .bool s.mr.p, .int .i64 s.mr.n, .int .i64 s.mb, .bool s.ml.a, .bool s.ml.p, .int .i64 s.ml.n, .int .i64 s.bo, .int .i64 s.pa, .int .i64 s.wh, .int .i64 s.al, .int .i64 s.lh, .int .i64 s.ri, .int .i64 s.dn]) 32)).alloc (.cells (#[.int .i64 0, .int .i64 0, .int .i64 0]) 27)).heap[w.heap.size]? = some (.cells (stCells s) 32 (0, 0)) := heap_in (heap_at _ _ _ rfl)
  have l1 : ((w.alloc (.cells (#[.int .i64 s.sh, .int .i64 s.fl, .int .i64 s.cl, .bool s.w.a, .bool s.w.p, .int .i64 s.w.n, .bool s.h.a, .bool s.h.p, .int .i64 s.h.n, .int .i64 s.mn, .int .i64 s.mx, .int .i64 s.mt, .bool s.mr.a, .bool s.mr.p, .int .i64 s.mr.n, .int .i64 s.mb, .bool s.ml.a, .bool s.ml.p, .int .i64 s.ml.n, .int .i64 s.bo, .int .i64 s.pa, .int .i64 s.wh, .int .i64 s.al, .int .i64 s.lh, .int .i64 s.ri, .int .i64 s.dn]) 32)).alloc (.cells (#[.int .i64 0, .int .i64 0, .int .i64 0]) 27)).heap[w.heap.size + 1]? = some (.cells (#[.int .i64 0, .int .i64 0, .int .i64 0]) 27 (0, 0)) := heap_at _ _ _ (by simp)
  have bel : Below w.heap.size w ((w.alloc (.cells (#[.int .i64 s.sh, .int .i64 s.fl, .int .i64 s.cl, .bool s.w.a, .bool s.w.p, .int .i64 s.w.n, .bool s.h.a, .bool s.h.p, .int .i64 s.h.n, .int .i64 s.mn, .int .i64 s.mx, .int .i64 s.mt, .bool s.mr.a, .bool s.mr.p, .int .i64 s.mr.n, .int .i64 s.mb, .bool s.ml.a, .bool s.ml.p, .int .i64 s.ml.n, .int .i64 s.bo, .int .i64 s.pa, .int .i64 s.wh, .int .i64 s.al, .int .i64 s.lh, .int .i64 s.ri, .int .i64 s.dn]) 32)).alloc (.cells (#[.int .i64 0, .int .i64 0, .int .i64 0]) 27)) := ((Below.refl _ _).alloc (Nat.le_refl _) _).alloc (by simp) _
  have GS := fun w => l6Good_any s b w
  have E1 := fun w => l1In_any nr 0 1000000 w
  have E2 := fun w => l1In_any wi 0 1000000 w
  rw [h1] at E1
  rw [h2] at E2
  clear h1 h2
  rw [hg] at GS
  clear hg
  go_enter Tryd.func12, Tryd.ntmps12
  go_wp2_with ((with_reducible show wpList _ _ _ (⟨some 12, Op.load 32 _, _, _, _, _⟩ :: _) _ _); refine wpList_load_row rfl 32 _ rfl (w.heap.size) rfl _ (stCells s) _ _ l0 Tryd.underlying32 rfl (by kernel_rfl) ?_)
  refine (GS _).mono ?_
  rintro e w1 ⟨rfl, hb⟩
  replace bel := bel.trans (hb.mono bel.size)
  replace l0 := below_lies hb l0 (lies_lt l0)
  replace l1 := below_lies hb l1 (lies_lt l1)
  clear hb
  have z1 := lies_lt l1
  go_wp2_with fail
  refine (E1 _).mono ?_
  rintro e w' ⟨rfl, hw9⟩
  have hw9 := hw9.symm
  subst hw9
  go_wp2_with fail
  refine (E2 _).mono ?_
  rintro e w' ⟨rfl, hw9⟩
  have hw9 := hw9.symm
  subst hw9
  go_wp2_with ((with_reducible show wpList _ _ _ (⟨none, Op.store 27 (Operand.tmp 8) (Operand.tmp 26), _, _, _, _⟩ :: _) _ _); refine wpList_putA rfl _ _ _ rfl rfl _ 0 3 [.int .i64 0, .int .i64 0, .int .i64 0] _ _ rfl rfl l1 rfl (by kernel_rfl) (by kernel_rfl) (by kernel_rfl) ?_; intro w9 p9 l9 n9; replace l1 := l9.trans (congrArg (fun c => some (Obj.cells c 27 (0, 0))) (show _ = (#[.int .i64 0, .int .i64 0, .int .i64 0] : Array Value) by kernel_rfl)); replace l0 := p9.lies l0 (by omega); replace bel := p9.below bel (by omega); clear l9 n9 p9)
  exact bodyPost_ret (v := .tuple #[.agg (#[.int .i64 0, .int .i64 0, .int .i64 0]), .bool false]) (results_row_tmp Tryd.results12 _ _ _ _ (#[.int .i64 0, .int .i64 0, .int .i64 0]) _ _ _ rfl l1 Tryd.underlying27 rfl (by kernel_rfl) rfl) rfl ⟨rfl, bel⟩
set_option maxRecDepth 100000 in
set_option maxHeartbeats 8000000 in
theorem floatS_a (s : St) (b nr wi : Int) (w : World) (hg : gdB s b = true) (ha : okA s b = false) (h1 : inB 0 1000000 nr = true) (h2 : inB 0 1000000 wi = true) :
    Calls Tryd.prog 12 #[.agg #[.int .i64 s.sh, .int .i64 s.fl, .int .i64 s.cl, .bool s.w.a, .bool s.w.p, .int .i64 s.w.n, .bool s.h.a, .bool s.h.p, .int .i64 s.h.n, .int .i64 s.mn, .int .i64 s.mx, .int .i64 s.mt, .bool s.mr.a, .bool s.mr.p, .int .i64 s.mr.n, .int .i64 s.mb, .bool s.ml.a, .bool s.ml.p, .int .i64 s.ml.n, .int .i64 s.bo, .int .i64 s.pa, .int .i64 s.wh, .int .i64 s.al, .int .i64 s.lh, .int .i64 s.ri, .int .i64 s.dn], .int .i64 b, .int .i64 nr, .int .i64 wi] w fun e w' => e = .returned (.tuple #[.agg (#[.int .i64 0, .int .i64 0, .int .i64 0]), .bool false]) ∧ Below w.heap.size w w' := by
  have l0 : ((w.alloc (.cells (#[.int .i64 s.sh, .int .i64 s.fl, .int .i64 s.cl, .bool s.w.a, .bool s.w.p, .int .i64 s.w.n, .bool s.h.a, .bool s.h.p, .int .i64 s.h.n, .int .i64 s.mn, .int .i64 s.mx, .int .i64 s.mt, .bool s.mr.a, .bool s.mr.p, .int .i64 s.mr.n, .int .i64 s.mb, .bool s.ml.a, .bool s.ml.p, .int .i64 s.ml.n, .int .i64 s.bo, .int .i64 s.pa, .int .i64 s.wh, .int .i64 s.al, .int .i64 s.lh, .int .i64 s.ri, .int .i64 s.dn]) 32)).alloc (.cells (#[.int .i64 0, .int .i64 0, .int .i64 0]) 27)).heap[w.heap.size]? = some (.cells (stCells s) 32 (0, 0)) := heap_in (heap_at _ _ _ rfl)
  have l1 : ((w.alloc (.cells (#[.int .i64 s.sh, .int .i64 s.fl, .int .i64 s.cl, .bool s.w.a, .bool s.w.p, .int .i64 s.w.n, .bool s.h.a, .bool s.h.p, .int .i64 s.h.n, .int .i64 s.mn, .int .i64 s.mx, .int .i64 s.mt, .bool s.mr.a, .bool s.mr.p, .int .i64 s.mr.n, .int .i64 s.mb, .bool s.ml.a, .bool s.ml.p, .int .i64 s.ml.n, .int .i64 s.bo, .int .i64 s.pa, .int .i64 s.wh, .int .i64 s.al, .int .i64 s.lh, .int .i64 s.ri, .int .i64 s.dn]) 32)).alloc (.cells (#[.int .i64 0, .int .i64 0, .int .i64 0]) 27)).heap[w.heap.size + 1]? = some (.cells (#[.int .i64 0, .int .i64 0, .int .i64 0]) 27 (0, 0)) := heap_at _ _ _ (by simp)
  have bel : Below w.heap.size w ((w.alloc (.cells (#[.int .i64 s.sh, .int .i64 s.fl, .int .i64 s.cl, .bool s.w.a, .bool s.w.p, .int .i64 s.w.n, .bool s.h.a, .bool s.h.p, .int .i64 s.h.n, .int .i64 s.mn, .int .i64 s.mx, .int .i64 s.mt, .bool s.mr.a, .bool s.mr.p, .int .i64 s.mr.n, .int .i64 s.mb, .bool s.ml.a, .bool s.ml.p, .int .i64 s.ml.n, .int .i64 s.bo, .int .i64 s.pa, .int .i64 s.wh, .int .i64 s.al, .int .i64 s.lh, .int .i64 s.ri, .int .i64 s.dn]) 32)).alloc (.cells (#[.int .i64 0, .int .i64 0, .int .i64 0]) 27)) := ((Below.refl _ _).alloc (Nat.le_refl _) _).alloc (by simp) _
  have GS := fun w => l6Good_any s b w
  have E1 := fun w => l1In_any nr 0 1000000 w
  have E2 := fun w => l1In_any wi 0 1000000 w
  rw [h1] at E1
  rw [h2] at E2
  have hg' := hg
  unfold gdB at hg'
  rw [Bool.and_eq_true] at hg'
  obtain ⟨k1, k2⟩ := inB_yes hg'.2
  obtain ⟨z1, z2, z3⟩ := style_sz hg'.1
  have L := fun w => l6Size_any s.ml.a s.ml.p s.ml.n b w k1 k2 (szB_bd z1).1 (szB_bd z1).2
  have M := fun w => l6Size_any s.mr.a s.mr.p s.mr.n b w k1 k2 (szB_bd z2).1 (szB_bd z2).2
  have D := fun w => l6Size_any s.w.a s.w.p s.w.n b w k1 k2 (szB_bd z3).1 (szB_bd z3).2
  rw [show szN s.ml.p s.ml.n b = mlN s b from rfl] at L
  rw [show szN s.mr.p s.mr.n b = mrN s b from rfl] at M
  rw [show szN s.w.p s.w.n b = wdN s b from rfl] at D
  rw [hg] at GS
  have HG : Hid (gdB s b = true) := hg
  have HN : Hid (okA s b = false) := ha
  obtain ⟨vl, hvl⟩ : ∃ v, v = mlN s b := ⟨_, rfl⟩
  obtain ⟨vm, hvm⟩ : ∃ v, v = mrN s b := ⟨_, rfl⟩
  obtain ⟨vd, hvd⟩ : ∃ v, v = wdN s b := ⟨_, rfl⟩
  have HVL : Hid (vl = mlN s b) := hvl
  have HVM : Hid (vm = mrN s b) := hvm
  have HVD : Hid (vd = wdN s b) := hvd
  rw [← hvl] at L
  rw [← hvm] at M
  rw [← hvd] at D
  clear hg hg' z1 z2 z3 ha hvl hvm hvd k1 k2
  go_enter Tryd.func12, Tryd.ntmps12
  go_wp2_with ((with_reducible show wpList _ _ _ (⟨some 12, Op.load 32 _, _, _, _, _⟩ :: _) _ _); refine wpList_load_row rfl 32 _ rfl (w.heap.size) rfl _ (stCells s) _ _ l0 Tryd.underlying32 rfl (by kernel_rfl) ?_)
  refine (GS _).mono ?_
  rintro e w1 ⟨rfl, hb⟩
  replace bel := bel.trans (hb.mono bel.size)
  replace l0 := below_lies hb l0 (lies_lt l0)
  replace l1 := below_lies hb l1 (lies_lt l1)
  clear hb
  have z1 := lies_lt l1
  have c16 : w1.cell? ⟨w.heap.size, 16, none⟩ = some (.bool s.ml.a) := (lies_cell l0 16).trans rfl
  have c17 : w1.cell? ⟨w.heap.size, 17, none⟩ = some (.bool s.ml.p) := (lies_cell l0 17).trans rfl
  have c18 : w1.cell? ⟨w.heap.size, 18, none⟩ = some (.int .i64 s.ml.n) := (lies_cell l0 18).trans rfl
  have c12 : w1.cell? ⟨w.heap.size, 12, none⟩ = some (.bool s.mr.a) := (lies_cell l0 12).trans rfl
  have c13 : w1.cell? ⟨w.heap.size, 13, none⟩ = some (.bool s.mr.p) := (lies_cell l0 13).trans rfl
  have c14 : w1.cell? ⟨w.heap.size, 14, none⟩ = some (.int .i64 s.mr.n) := (lies_cell l0 14).trans rfl
  have c3 : w1.cell? ⟨w.heap.size, 3, none⟩ = some (.bool s.w.a) := (lies_cell l0 3).trans rfl
  have c4 : w1.cell? ⟨w.heap.size, 4, none⟩ = some (.bool s.w.p) := (lies_cell l0 4).trans rfl
  have c5 : w1.cell? ⟨w.heap.size, 5, none⟩ = some (.int .i64 s.w.n) := (lies_cell l0 5).trans rfl
  go_wp2_with fail
  refine (E1 _).mono ?_
  rintro e w' ⟨rfl, hw9⟩
  have hw9 := hw9.symm
  subst hw9
  go_wp2_with fail
  refine (E2 _).mono ?_
  rintro e w' ⟨rfl, hw9⟩
  have hw9 := hw9.symm
  subst hw9
  go_wp2
  have lq := heap_at w1 (.cells (#[.bool s.ml.a, .bool s.ml.p, .int .i64 s.ml.n, .bool s.mr.a, .bool s.mr.p, .int .i64 s.mr.n, .bool s.w.a, .bool s.w.p, .int .i64 s.w.n]) 30) _ rfl
  replace l0 := heap_in (o := .cells (#[.bool s.ml.a, .bool s.ml.p, .int .i64 s.ml.n, .bool s.mr.a, .bool s.mr.p, .int .i64 s.mr.n, .bool s.w.a, .bool s.w.p, .int .i64 s.w.n]) 30) l0
  replace l1 := heap_in (o := .cells (#[.bool s.ml.a, .bool s.ml.p, .int .i64 s.ml.n, .bool s.mr.a, .bool s.mr.p, .int .i64 s.mr.n, .bool s.w.a, .bool s.w.p, .int .i64 s.w.n]) 30) l1
  replace bel := bel.alloc bel.size (.cells (#[.bool s.ml.a, .bool s.ml.p, .int .i64 s.ml.n, .bool s.mr.a, .bool s.mr.p, .int .i64 s.mr.n, .bool s.w.a, .bool s.w.p, .int .i64 s.w.n]) 30)
  clear c16 c17 c18 c12 c13 c14 c3 c4 c5
  go_loopw [35] (fun i wr => ∃ k : Nat, k ≤ 3 ∧ i = .int .i64 k ∧ Hid (good3 s b k) ∧ Below w.heap.size w wr ∧ wr.heap[w.heap.size]? = some (.cells (stCells s) 32 (0, 0)) ∧ wr.heap[w.heap.size + 1]? = some (.cells (#[.int .i64 0, .int .i64 0, .int .i64 0]) 27 (0, 0)) ∧ wr.heap[w1.heap.size]? = some (.cells (#[.bool s.ml.a, .bool s.ml.p, .int .i64 s.ml.n, .bool s.mr.a, .bool s.mr.p, .int .i64 s.mr.n, .bool s.w.a, .bool s.w.p, .int .i64 s.w.n]) 30 (0, 0))) (fun i _ => 3 - (intOf i).toNat)
  case atStart => exact ⟨0, by omega, rfl, ⟨fun h => by omega, fun h => by omega, fun h => by omega⟩, bel, l0, l1, lq⟩
  case round =>
    clear l0 l1 lq bel
    obtain ⟨k, hk, rfl, hgd, bel, l0, l1, lq⟩ := hrel
    have z2 := lies_lt lq
    rcases (by omega : k = 0 ∨ k = 1 ∨ k = 2 ∨ k = 3) with rfl | rfl | rfl | rfl
    · have e0 : wr.cell? ⟨w1.heap.size, 0, none⟩ = some (.bool s.ml.a) := (lies_cell lq 0).trans rfl
      have e1 : wr.cell? ⟨w1.heap.size, 1, none⟩ = some (.bool s.ml.p) := (lies_cell lq 1).trans rfl
      have e2 : wr.cell? ⟨w1.heap.size, 2, none⟩ = some (.int .i64 s.ml.n) := (lies_cell lq 2).trans rfl
      go_wp2_with (first | ((with_reducible show wpList _ _ _ (⟨none, Op.store 30 (Operand.tmp 11) (Operand.tmp 38), _, _, _, _⟩ :: _) _ _); refine wpList_store_new rfl 30 _ _ rfl rfl (#[.bool s.ml.a, .bool s.ml.p, .int .i64 s.ml.n]) 30 _ _ rfl rfl rfl (by kernel_rfl) rfl (by kernel_rfl) ?_; have lx := heap_at wr (.cells (#[.bool s.ml.a, .bool s.ml.p, .int .i64 s.ml.n]) 30) _ rfl; replace l0 := heap_in (o := .cells (#[.bool s.ml.a, .bool s.ml.p, .int .i64 s.ml.n]) 30) l0; replace l1 := heap_in (o := .cells (#[.bool s.ml.a, .bool s.ml.p, .int .i64 s.ml.n]) 30) l1; replace lq := heap_in (o := .cells (#[.bool s.ml.a, .bool s.ml.p, .int .i64 s.ml.n]) 30) lq; replace bel := bel.alloc bel.size (.cells (#[.bool s.ml.a, .bool s.ml.p, .int .i64 s.ml.n]) 30); clear e0 e1 e2) | ((with_reducible show wpList _ _ _ (⟨some 39, Op.load 30 _, _, _, _, _⟩ :: _) _ _); refine wpList_load_row rfl 30 _ rfl (wr.heap.size) rfl _ (#[.bool s.ml.a, .bool s.ml.p, .int .i64 s.ml.n]) _ _ lx Tryd.underlying30 rfl (by kernel_rfl) ?_))
      refine (L _).mono ?_
      rintro e w3 ⟨rfl, hb⟩
      replace bel := bel.trans (hb.mono bel.size)
      replace l0 := below_lies hb l0 (lies_lt l0)
      replace l1 := below_lies hb l1 (lies_lt l1)
      replace lq := below_lies hb lq (lies_lt lq)
      clear hb
      go_wp2_with fail
      rcases Bool.eq_false_or_eq_true (inB (-1000000) 1000000 vl) with hh | hh
      · have GG := fun w => specLen_any vl w
        rw [hh] at GG
        have hh2 : Hid (inB (-1000000) 1000000 (mlN s b) = true) := by show _ = _; rw [← HVL.out]; exact hh
        clear hh
        refine (GG _).mono ?_
        rintro e w' ⟨rfl, hw9⟩
        have hw9 := hw9.symm
        subst hw9
        go_wp2
        go_roundw
        case rel => exact ⟨1, by omega, by rfl, ⟨fun _ => hh2.out, fun h => by omega, fun h => by omega⟩, bel, l0, l1, lq⟩
        case measure => simp [intOf]
      · have GG := fun w => specLen_any vl w
        rw [hh] at GG
        clear hh
        refine (GG _).mono ?_
        rintro e w' ⟨rfl, hw9⟩
        have hw9 := hw9.symm
        subst hw9
        go_wp2_with ((with_reducible show wpList _ _ _ (⟨none, Op.store 27 (Operand.tmp 8) (Operand.tmp 44), _, _, _, _⟩ :: _) _ _); refine wpList_putA rfl _ _ _ rfl rfl _ 0 3 [.int .i64 0, .int .i64 0, .int .i64 0] _ _ rfl rfl l1 rfl (by kernel_rfl) (by kernel_rfl) (by kernel_rfl) ?_; intro w9 p9 l9 n9; replace l1 := l9.trans (congrArg (fun c => some (Obj.cells c 27 (0, 0))) (show _ = (#[.int .i64 0, .int .i64 0, .int .i64 0] : Array Value) by kernel_rfl)); replace l0 := p9.lies l0 (by omega); replace bel := p9.below bel (by omega); clear l9 n9 p9)
        exact bodyPost_ret (v := .tuple #[.agg (#[.int .i64 0, .int .i64 0, .int .i64 0]), .bool false]) (results_row_tmp Tryd.results12 _ _ _ _ (#[.int .i64 0, .int .i64 0, .int .i64 0]) _ _ _ rfl l1 Tryd.underlying27 rfl (by kernel_rfl) rfl) rfl ⟨rfl, bel⟩
    · have e0 : wr.cell? ⟨w1.heap.size, 3, none⟩ = some (.bool s.mr.a) := (lies_cell lq 3).trans rfl
      have e1 : wr.cell? ⟨w1.heap.size, 4, none⟩ = some (.bool s.mr.p) := (lies_cell lq 4).trans rfl
      have e2 : wr.cell? ⟨w1.heap.size, 5, none⟩ = some (.int .i64 s.mr.n) := (lies_cell lq 5).trans rfl
      go_wp2_with (first | ((with_reducible show wpList _ _ _ (⟨none, Op.store 30 (Operand.tmp 11) (Operand.tmp 38), _, _, _, _⟩ :: _) _ _); refine wpList_store_new rfl 30 _ _ rfl rfl (#[.bool s.mr.a, .bool s.mr.p, .int .i64 s.mr.n]) 30 _ _ rfl rfl rfl (by kernel_rfl) rfl (by kernel_rfl) ?_; have lx := heap_at wr (.cells (#[.bool s.mr.a, .bool s.mr.p, .int .i64 s.mr.n]) 30) _ rfl; replace l0 := heap_in (o := .cells (#[.bool s.mr.a, .bool s.mr.p, .int .i64 s.mr.n]) 30) l0; replace l1 := heap_in (o := .cells (#[.bool s.mr.a, .bool s.mr.p, .int .i64 s.mr.n]) 30) l1; replace lq := heap_in (o := .cells (#[.bool s.mr.a, .bool s.mr.p, .int .i64 s.mr.n]) 30) lq; replace bel := bel.alloc bel.size (.cells (#[.bool s.mr.a, .bool s.mr.p, .int .i64 s.mr.n]) 30); clear e0 e1 e2) | ((with_reducible show wpList _ _ _ (⟨some 39, Op.load 30 _, _, _, _, _⟩ :: _) _ _); refine wpList_load_row rfl 30 _ rfl (wr.heap.size) rfl _ (#[.bool s.mr.a, .bool s.mr.p, .int .i64 s.mr.n]) _ _ lx Tryd.underlying30 rfl (by kernel_rfl) ?_))
      refine (M _).mono ?_
      rintro e w3 ⟨rfl, hb⟩
      replace bel := bel.trans (hb.mono bel.size)
      replace l0 := below_lies hb l0 (lies_lt l0)
      replace l1 := below_lies hb l1 (lies_lt l1)
      replace lq := below_lies hb lq (lies_lt lq)
      clear hb
      go_wp2_with fail
      rcases Bool.eq_false_or_eq_true (inB (-1000000) 1000000 vm) with hh | hh
      · have GG := fun w => specLen_any vm w
        rw [hh] at GG
        have hh2 : Hid (inB (-1000000) 1000000 (mrN s b) = true) := by show _ = _; rw [← HVM.out]; exact hh
        clear hh
        refine (GG _).mono ?_
        rintro e w' ⟨rfl, hw9⟩
        have hw9 := hw9.symm
        subst hw9
        go_wp2
        go_roundw
        case rel => exact ⟨2, by omega, by rfl, ⟨fun _ => hgd.out.1 (by omega), fun _ => hh2.out, fun h => by omega⟩, bel, l0, l1, lq⟩
        case measure => simp [intOf]
      · have GG := fun w => specLen_any vm w
        rw [hh] at GG
        clear hh
        refine (GG _).mono ?_
        rintro e w' ⟨rfl, hw9⟩
        have hw9 := hw9.symm
        subst hw9
        go_wp2_with ((with_reducible show wpList _ _ _ (⟨none, Op.store 27 (Operand.tmp 8) (Operand.tmp 44), _, _, _, _⟩ :: _) _ _); refine wpList_putA rfl _ _ _ rfl rfl _ 0 3 [.int .i64 0, .int .i64 0, .int .i64 0] _ _ rfl rfl l1 rfl (by kernel_rfl) (by kernel_rfl) (by kernel_rfl) ?_; intro w9 p9 l9 n9; replace l1 := l9.trans (congrArg (fun c => some (Obj.cells c 27 (0, 0))) (show _ = (#[.int .i64 0, .int .i64 0, .int .i64 0] : Array Value) by kernel_rfl)); replace l0 := p9.lies l0 (by omega); replace bel := p9.below bel (by omega); clear l9 n9 p9)
        exact bodyPost_ret (v := .tuple #[.agg (#[.int .i64 0, .int .i64 0, .int .i64 0]), .bool false]) (results_row_tmp Tryd.results12 _ _ _ _ (#[.int .i64 0, .int .i64 0, .int .i64 0]) _ _ _ rfl l1 Tryd.underlying27 rfl (by kernel_rfl) rfl) rfl ⟨rfl, bel⟩
    · have e0 : wr.cell? ⟨w1.heap.size, 6, none⟩ = some (.bool s.w.a) := (lies_cell lq 6).trans rfl
      have e1 : wr.cell? ⟨w1.heap.size, 7, none⟩ = some (.bool s.w.p) := (lies_cell lq 7).trans rfl
      have e2 : wr.cell? ⟨w1.heap.size, 8, none⟩ = some (.int .i64 s.w.n) := (lies_cell lq 8).trans rfl
      go_wp2_with (first | ((with_reducible show wpList _ _ _ (⟨none, Op.store 30 (Operand.tmp 11) (Operand.tmp 38), _, _, _, _⟩ :: _) _ _); refine wpList_store_new rfl 30 _ _ rfl rfl (#[.bool s.w.a, .bool s.w.p, .int .i64 s.w.n]) 30 _ _ rfl rfl rfl (by kernel_rfl) rfl (by kernel_rfl) ?_; have lx := heap_at wr (.cells (#[.bool s.w.a, .bool s.w.p, .int .i64 s.w.n]) 30) _ rfl; replace l0 := heap_in (o := .cells (#[.bool s.w.a, .bool s.w.p, .int .i64 s.w.n]) 30) l0; replace l1 := heap_in (o := .cells (#[.bool s.w.a, .bool s.w.p, .int .i64 s.w.n]) 30) l1; replace lq := heap_in (o := .cells (#[.bool s.w.a, .bool s.w.p, .int .i64 s.w.n]) 30) lq; replace bel := bel.alloc bel.size (.cells (#[.bool s.w.a, .bool s.w.p, .int .i64 s.w.n]) 30); clear e0 e1 e2) | ((with_reducible show wpList _ _ _ (⟨some 39, Op.load 30 _, _, _, _, _⟩ :: _) _ _); refine wpList_load_row rfl 30 _ rfl (wr.heap.size) rfl _ (#[.bool s.w.a, .bool s.w.p, .int .i64 s.w.n]) _ _ lx Tryd.underlying30 rfl (by kernel_rfl) ?_))
      refine (D _).mono ?_
      rintro e w3 ⟨rfl, hb⟩
      replace bel := bel.trans (hb.mono bel.size)
      replace l0 := below_lies hb l0 (lies_lt l0)
      replace l1 := below_lies hb l1 (lies_lt l1)
      replace lq := below_lies hb lq (lies_lt lq)
      clear hb
      go_wp2_with fail
      rcases Bool.eq_false_or_eq_true (inB (-1000000) 1000000 vd) with hh | hh
      · have GG := fun w => specLen_any vd w
        rw [hh] at GG
        have hh2 : Hid (inB (-1000000) 1000000 (wdN s b) = true) := by show _ = _; rw [← HVD.out]; exact hh
        clear hh
        refine (GG _).mono ?_
        rintro e w' ⟨rfl, hw9⟩
        have hw9 := hw9.symm
        subst hw9
        go_wp2
        go_roundw
        case rel => exact ⟨3, by omega, by rfl, ⟨fun _ => hgd.out.1 (by omega), fun _ => hgd.out.2.1 (by omega), fun _ => hh2.out⟩, bel, l0, l1, lq⟩
        case measure => simp [intOf]
      · have GG := fun w => specLen_any vd w
        rw [hh] at GG
        clear hh
        refine (GG _).mono ?_
        rintro e w' ⟨rfl, hw9⟩
        have hw9 := hw9.symm
        subst hw9
        go_wp2_with ((with_reducible show wpList _ _ _ (⟨none, Op.store 27 (Operand.tmp 8) (Operand.tmp 44), _, _, _, _⟩ :: _) _ _); refine wpList_putA rfl _ _ _ rfl rfl _ 0 3 [.int .i64 0, .int .i64 0, .int .i64 0] _ _ rfl rfl l1 rfl (by kernel_rfl) (by kernel_rfl) (by kernel_rfl) ?_; intro w9 p9 l9 n9; replace l1 := l9.trans (congrArg (fun c => some (Obj.cells c 27 (0, 0))) (show _ = (#[.int .i64 0, .int .i64 0, .int .i64 0] : Array Value) by kernel_rfl)); replace l0 := p9.lies l0 (by omega); replace bel := p9.below bel (by omega); clear l9 n9 p9)
        exact bodyPost_ret (v := .tuple #[.agg (#[.int .i64 0, .int .i64 0, .int .i64 0]), .bool false]) (results_row_tmp Tryd.results12 _ _ _ _ (#[.int .i64 0, .int .i64 0, .int .i64 0]) _ _ _ rfl l1 Tryd.underlying27 rfl (by kernel_rfl) rfl) rfl ⟨rfl, bel⟩
    · exact absurd (good3_ok HG.out hgd.out) (by rw [HN.out]; decide)
set_option maxRecDepth 100000 in
set_option maxHeartbeats 8000000 in
theorem floatS_y (s : St) (b nr wi : Int) (w : World) (ha : okA s b = true) (h1 : inB 0 1000000 nr = true) (h2 : inB 0 1000000 wi = true) :
    Calls Tryd.prog 12 #[.agg #[.int .i64 s.sh, .int .i64 s.fl, .int .i64 s.cl, .bool s.w.a, .bool s.w.p, .int .i64 s.w.n, .bool s.h.a, .bool s.h.p, .int .i64 s.h.n, .int .i64 s.mn, .int .i64 s.mx, .int .i64 s.mt, .bool s.mr.a, .bool s.mr.p, .int .i64 s.mr.n, .int .i64 s.mb, .bool s.ml.a, .bool s.ml.p, .int .i64 s.ml.n, .int .i64 s.bo, .int .i64 s.pa, .int .i64 s.wh, .int .i64 s.al, .int .i64 s.lh, .int .i64 s.ri, .int .i64 s.dn], .int .i64 b, .int .i64 nr, .int .i64 wi] w fun e w' => e = .returned (.tuple #[.agg (#[.int .i64 (mlN s b), .int .i64 (flW s b nr wi), .int .i64 (mrN s b)]), .bool true]) ∧ Below w.heap.size w w' := by
  have l0 : ((w.alloc (.cells (#[.int .i64 s.sh, .int .i64 s.fl, .int .i64 s.cl, .bool s.w.a, .bool s.w.p, .int .i64 s.w.n, .bool s.h.a, .bool s.h.p, .int .i64 s.h.n, .int .i64 s.mn, .int .i64 s.mx, .int .i64 s.mt, .bool s.mr.a, .bool s.mr.p, .int .i64 s.mr.n, .int .i64 s.mb, .bool s.ml.a, .bool s.ml.p, .int .i64 s.ml.n, .int .i64 s.bo, .int .i64 s.pa, .int .i64 s.wh, .int .i64 s.al, .int .i64 s.lh, .int .i64 s.ri, .int .i64 s.dn]) 32)).alloc (.cells (#[.int .i64 0, .int .i64 0, .int .i64 0]) 27)).heap[w.heap.size]? = some (.cells (stCells s) 32 (0, 0)) := heap_in (heap_at _ _ _ rfl)
  have l1 : ((w.alloc (.cells (#[.int .i64 s.sh, .int .i64 s.fl, .int .i64 s.cl, .bool s.w.a, .bool s.w.p, .int .i64 s.w.n, .bool s.h.a, .bool s.h.p, .int .i64 s.h.n, .int .i64 s.mn, .int .i64 s.mx, .int .i64 s.mt, .bool s.mr.a, .bool s.mr.p, .int .i64 s.mr.n, .int .i64 s.mb, .bool s.ml.a, .bool s.ml.p, .int .i64 s.ml.n, .int .i64 s.bo, .int .i64 s.pa, .int .i64 s.wh, .int .i64 s.al, .int .i64 s.lh, .int .i64 s.ri, .int .i64 s.dn]) 32)).alloc (.cells (#[.int .i64 0, .int .i64 0, .int .i64 0]) 27)).heap[w.heap.size + 1]? = some (.cells (#[.int .i64 0, .int .i64 0, .int .i64 0]) 27 (0, 0)) := heap_at _ _ _ (by simp)
  have bel : Below w.heap.size w ((w.alloc (.cells (#[.int .i64 s.sh, .int .i64 s.fl, .int .i64 s.cl, .bool s.w.a, .bool s.w.p, .int .i64 s.w.n, .bool s.h.a, .bool s.h.p, .int .i64 s.h.n, .int .i64 s.mn, .int .i64 s.mx, .int .i64 s.mt, .bool s.mr.a, .bool s.mr.p, .int .i64 s.mr.n, .int .i64 s.mb, .bool s.ml.a, .bool s.ml.p, .int .i64 s.ml.n, .int .i64 s.bo, .int .i64 s.pa, .int .i64 s.wh, .int .i64 s.al, .int .i64 s.lh, .int .i64 s.ri, .int .i64 s.dn]) 32)).alloc (.cells (#[.int .i64 0, .int .i64 0, .int .i64 0]) 27)) := ((Below.refl _ _).alloc (Nat.le_refl _) _).alloc (by simp) _
  have GS := fun w => l6Good_any s b w
  have E1 := fun w => l1In_any nr 0 1000000 w
  have E2 := fun w => l1In_any wi 0 1000000 w
  rw [h1] at E1
  rw [h2] at E2
  have hg := gd_of ha
  have hg' := hg
  unfold gdB at hg'
  rw [Bool.and_eq_true] at hg'
  obtain ⟨k1, k2⟩ := inB_yes hg'.2
  obtain ⟨z1, z2, z3⟩ := style_sz hg'.1
  have L := fun w => l6Size_any s.ml.a s.ml.p s.ml.n b w k1 k2 (szB_bd z1).1 (szB_bd z1).2
  have M := fun w => l6Size_any s.mr.a s.mr.p s.mr.n b w k1 k2 (szB_bd z2).1 (szB_bd z2).2
  have D := fun w => l6Size_any s.w.a s.w.p s.w.n b w k1 k2 (szB_bd z3).1 (szB_bd z3).2
  rw [show szN s.ml.p s.ml.n b = mlN s b from rfl] at L
  rw [show szN s.mr.p s.mr.n b = mrN s b from rfl] at M
  rw [show szN s.w.p s.w.n b = wdN s b from rfl] at D
  rw [hg] at GS
  obtain ⟨_, _, i1, i2, i3⟩ := okA_yes ha
  have INN := fun w => l6Float_any s b nr wi w ha h1 h2
  have GL := fun w => specLen_any (mlN s b) w
  have GM := fun w => specLen_any (mrN s b) w
  have GD := fun w => specLen_any (wdN s b) w
  rw [i1] at GL
  rw [i3] at GM
  rw [i2] at GD
  generalize mlN s b = r0 at INN L GL ⊢
  generalize flW s b nr wi = r1 at INN ⊢
  generalize mrN s b = r2 at INN M GM ⊢
  generalize wdN s b = vd at D GD
  clear hg hg' z1 z2 z3 ha i1 i2 i3 k1 k2 h1 h2
  go_enter Tryd.func12, Tryd.ntmps12
  go_wp2_with ((with_reducible show wpList _ _ _ (⟨some 12, Op.load 32 _, _, _, _, _⟩ :: _) _ _); refine wpList_load_row rfl 32 _ rfl (w.heap.size) rfl _ (stCells s) _ _ l0 Tryd.underlying32 rfl (by kernel_rfl) ?_)
  refine (GS _).mono ?_
  rintro e w1 ⟨rfl, hb⟩
  replace bel := bel.trans (hb.mono bel.size)
  replace l0 := below_lies hb l0 (lies_lt l0)
  replace l1 := below_lies hb l1 (lies_lt l1)
  clear hb
  have z1 := lies_lt l1
  have c16 : w1.cell? ⟨w.heap.size, 16, none⟩ = some (.bool s.ml.a) := (lies_cell l0 16).trans rfl
  have c17 : w1.cell? ⟨w.heap.size, 17, none⟩ = some (.bool s.ml.p) := (lies_cell l0 17).trans rfl
  have c18 : w1.cell? ⟨w.heap.size, 18, none⟩ = some (.int .i64 s.ml.n) := (lies_cell l0 18).trans rfl
  have c12 : w1.cell? ⟨w.heap.size, 12, none⟩ = some (.bool s.mr.a) := (lies_cell l0 12).trans rfl
  have c13 : w1.cell? ⟨w.heap.size, 13, none⟩ = some (.bool s.mr.p) := (lies_cell l0 13).trans rfl
  have c14 : w1.cell? ⟨w.heap.size, 14, none⟩ = some (.int .i64 s.mr.n) := (lies_cell l0 14).trans rfl
  have c3 : w1.cell? ⟨w.heap.size, 3, none⟩ = some (.bool s.w.a) := (lies_cell l0 3).trans rfl
  have c4 : w1.cell? ⟨w.heap.size, 4, none⟩ = some (.bool s.w.p) := (lies_cell l0 4).trans rfl
  have c5 : w1.cell? ⟨w.heap.size, 5, none⟩ = some (.int .i64 s.w.n) := (lies_cell l0 5).trans rfl
  go_wp2_with fail
  refine (E1 _).mono ?_
  rintro e w' ⟨rfl, hw9⟩
  have hw9 := hw9.symm
  subst hw9
  go_wp2_with fail
  refine (E2 _).mono ?_
  rintro e w' ⟨rfl, hw9⟩
  have hw9 := hw9.symm
  subst hw9
  go_wp2
  have lq := heap_at w1 (.cells (#[.bool s.ml.a, .bool s.ml.p, .int .i64 s.ml.n, .bool s.mr.a, .bool s.mr.p, .int .i64 s.mr.n, .bool s.w.a, .bool s.w.p, .int .i64 s.w.n]) 30) _ rfl
  replace l0 := heap_in (o := .cells (#[.bool s.ml.a, .bool s.ml.p, .int .i64 s.ml.n, .bool s.mr.a, .bool s.mr.p, .int .i64 s.mr.n, .bool s.w.a, .bool s.w.p, .int .i64 s.w.n]) 30) l0
  replace l1 := heap_in (o := .cells (#[.bool s.ml.a, .bool s.ml.p, .int .i64 s.ml.n, .bool s.mr.a, .bool s.mr.p, .int .i64 s.mr.n, .bool s.w.a, .bool s.w.p, .int .i64 s.w.n]) 30) l1
  replace bel := bel.alloc bel.size (.cells (#[.bool s.ml.a, .bool s.ml.p, .int .i64 s.ml.n, .bool s.mr.a, .bool s.mr.p, .int .i64 s.mr.n, .bool s.w.a, .bool s.w.p, .int .i64 s.w.n]) 30)
  clear c16 c17 c18 c12 c13 c14 c3 c4 c5
  go_loopw [35] (fun i wr => ∃ k : Nat, k ≤ 3 ∧ i = .int .i64 k ∧ Below w.heap.size w wr ∧ wr.heap[w.heap.size]? = some (.cells (stCells s) 32 (0, 0)) ∧ wr.heap[w.heap.size + 1]? = some (.cells (#[.int .i64 0, .int .i64 0, .int .i64 0]) 27 (0, 0)) ∧ wr.heap[w1.heap.size]? = some (.cells (#[.bool s.ml.a, .bool s.ml.p, .int .i64 s.ml.n, .bool s.mr.a, .bool s.mr.p, .int .i64 s.mr.n, .bool s.w.a, .bool s.w.p, .int .i64 s.w.n]) 30 (0, 0))) (fun i _ => 3 - (intOf i).toNat)
  case atStart => exact ⟨0, by omega, rfl, bel, l0, l1, lq⟩
  case round =>
    clear l0 l1 lq bel
    obtain ⟨k, hk, rfl, bel, l0, l1, lq⟩ := hrel
    have z2 := lies_lt lq
    rcases (by omega : k = 0 ∨ k = 1 ∨ k = 2 ∨ k = 3) with rfl | rfl | rfl | rfl
    · have e0 : wr.cell? ⟨w1.heap.size, 0, none⟩ = some (.bool s.ml.a) := (lies_cell lq 0).trans rfl
      have e1 : wr.cell? ⟨w1.heap.size, 1, none⟩ = some (.bool s.ml.p) := (lies_cell lq 1).trans rfl
      have e2 : wr.cell? ⟨w1.heap.size, 2, none⟩ = some (.int .i64 s.ml.n) := (lies_cell lq 2).trans rfl
      go_wp2_with (first | ((with_reducible show wpList _ _ _ (⟨none, Op.store 30 (Operand.tmp 11) (Operand.tmp 38), _, _, _, _⟩ :: _) _ _); refine wpList_store_new rfl 30 _ _ rfl rfl (#[.bool s.ml.a, .bool s.ml.p, .int .i64 s.ml.n]) 30 _ _ rfl rfl rfl (by kernel_rfl) rfl (by kernel_rfl) ?_; have lx := heap_at wr (.cells (#[.bool s.ml.a, .bool s.ml.p, .int .i64 s.ml.n]) 30) _ rfl; replace l0 := heap_in (o := .cells (#[.bool s.ml.a, .bool s.ml.p, .int .i64 s.ml.n]) 30) l0; replace l1 := heap_in (o := .cells (#[.bool s.ml.a, .bool s.ml.p, .int .i64 s.ml.n]) 30) l1; replace lq := heap_in (o := .cells (#[.bool s.ml.a, .bool s.ml.p, .int .i64 s.ml.n]) 30) lq; replace bel := bel.alloc bel.size (.cells (#[.bool s.ml.a, .bool s.ml.p, .int .i64 s.ml.n]) 30); clear e0 e1 e2) | ((with_reducible show wpList _ _ _ (⟨some 39, Op.load 30 _, _, _, _, _⟩ :: _) _ _); refine wpList_load_row rfl 30 _ rfl (wr.heap.size) rfl _ (#[.bool s.ml.a, .bool s.ml.p, .int .i64 s.ml.n]) _ _ lx Tryd.underlying30 rfl (by kernel_rfl) ?_))
      refine (L _).mono ?_
      rintro e w3 ⟨rfl, hb⟩
      replace bel := bel.trans (hb.mono bel.size)
      replace l0 := below_lies hb l0 (lies_lt l0)
      replace l1 := below_lies hb l1 (lies_lt l1)
      replace lq := below_lies hb lq (lies_lt lq)
      clear hb
      go_wp2_with fail
      refine (GL _).mono ?_
      rintro e w' ⟨rfl, hw9⟩
      have hw9 := hw9.symm
      subst hw9
      go_wp2
      go_roundw
      case rel => exact ⟨1, by omega, by rfl, bel, l0, l1, lq⟩
      case measure => simp [intOf]
    · have e0 : wr.cell? ⟨w1.heap.size, 3, none⟩ = some (.bool s.mr.a) := (lies_cell lq 3).trans rfl
      have e1 : wr.cell? ⟨w1.heap.size, 4, none⟩ = some (.bool s.mr.p) := (lies_cell lq 4).trans rfl
      have e2 : wr.cell? ⟨w1.heap.size, 5, none⟩ = some (.int .i64 s.mr.n) := (lies_cell lq 5).trans rfl
      go_wp2_with (first | ((with_reducible show wpList _ _ _ (⟨none, Op.store 30 (Operand.tmp 11) (Operand.tmp 38), _, _, _, _⟩ :: _) _ _); refine wpList_store_new rfl 30 _ _ rfl rfl (#[.bool s.mr.a, .bool s.mr.p, .int .i64 s.mr.n]) 30 _ _ rfl rfl rfl (by kernel_rfl) rfl (by kernel_rfl) ?_; have lx := heap_at wr (.cells (#[.bool s.mr.a, .bool s.mr.p, .int .i64 s.mr.n]) 30) _ rfl; replace l0 := heap_in (o := .cells (#[.bool s.mr.a, .bool s.mr.p, .int .i64 s.mr.n]) 30) l0; replace l1 := heap_in (o := .cells (#[.bool s.mr.a, .bool s.mr.p, .int .i64 s.mr.n]) 30) l1; replace lq := heap_in (o := .cells (#[.bool s.mr.a, .bool s.mr.p, .int .i64 s.mr.n]) 30) lq; replace bel := bel.alloc bel.size (.cells (#[.bool s.mr.a, .bool s.mr.p, .int .i64 s.mr.n]) 30); clear e0 e1 e2) | ((with_reducible show wpList _ _ _ (⟨some 39, Op.load 30 _, _, _, _, _⟩ :: _) _ _); refine wpList_load_row rfl 30 _ rfl (wr.heap.size) rfl _ (#[.bool s.mr.a, .bool s.mr.p, .int .i64 s.mr.n]) _ _ lx Tryd.underlying30 rfl (by kernel_rfl) ?_))
      refine (M _).mono ?_
      rintro e w3 ⟨rfl, hb⟩
      replace bel := bel.trans (hb.mono bel.size)
      replace l0 := below_lies hb l0 (lies_lt l0)
      replace l1 := below_lies hb l1 (lies_lt l1)
      replace lq := below_lies hb lq (lies_lt lq)
      clear hb
      go_wp2_with fail
      refine (GM _).mono ?_
      rintro e w' ⟨rfl, hw9⟩
      have hw9 := hw9.symm
      subst hw9
      go_wp2
      go_roundw
      case rel => exact ⟨2, by omega, by rfl, bel, l0, l1, lq⟩
      case measure => simp [intOf]
    · have e0 : wr.cell? ⟨w1.heap.size, 6, none⟩ = some (.bool s.w.a) := (lies_cell lq 6).trans rfl
      have e1 : wr.cell? ⟨w1.heap.size, 7, none⟩ = some (.bool s.w.p) := (lies_cell lq 7).trans rfl
      have e2 : wr.cell? ⟨w1.heap.size, 8, none⟩ = some (.int .i64 s.w.n) := (lies_cell lq 8).trans rfl
      go_wp2_with (first | ((with_reducible show wpList _ _ _ (⟨none, Op.store 30 (Operand.tmp 11) (Operand.tmp 38), _, _, _, _⟩ :: _) _ _); refine wpList_store_new rfl 30 _ _ rfl rfl (#[.bool s.w.a, .bool s.w.p, .int .i64 s.w.n]) 30 _ _ rfl rfl rfl (by kernel_rfl) rfl (by kernel_rfl) ?_; have lx := heap_at wr (.cells (#[.bool s.w.a, .bool s.w.p, .int .i64 s.w.n]) 30) _ rfl; replace l0 := heap_in (o := .cells (#[.bool s.w.a, .bool s.w.p, .int .i64 s.w.n]) 30) l0; replace l1 := heap_in (o := .cells (#[.bool s.w.a, .bool s.w.p, .int .i64 s.w.n]) 30) l1; replace lq := heap_in (o := .cells (#[.bool s.w.a, .bool s.w.p, .int .i64 s.w.n]) 30) lq; replace bel := bel.alloc bel.size (.cells (#[.bool s.w.a, .bool s.w.p, .int .i64 s.w.n]) 30); clear e0 e1 e2) | ((with_reducible show wpList _ _ _ (⟨some 39, Op.load 30 _, _, _, _, _⟩ :: _) _ _); refine wpList_load_row rfl 30 _ rfl (wr.heap.size) rfl _ (#[.bool s.w.a, .bool s.w.p, .int .i64 s.w.n]) _ _ lx Tryd.underlying30 rfl (by kernel_rfl) ?_))
      refine (D _).mono ?_
      rintro e w3 ⟨rfl, hb⟩
      replace bel := bel.trans (hb.mono bel.size)
      replace l0 := below_lies hb l0 (lies_lt l0)
      replace l1 := below_lies hb l1 (lies_lt l1)
      replace lq := below_lies hb lq (lies_lt lq)
      clear hb
      go_wp2_with fail
      refine (GD _).mono ?_
      rintro e w' ⟨rfl, hw9⟩
      have hw9 := hw9.symm
      subst hw9
      go_wp2
      go_roundw
      case rel => exact ⟨3, by omega, by rfl, bel, l0, l1, lq⟩
      case measure => simp [intOf]
    · go_wp2_with ((with_reducible show wpList _ _ _ (⟨some 46, Op.load 32 _, _, _, _, _⟩ :: _) _ _); refine wpList_load_row rfl 32 _ rfl (w.heap.size) rfl _ (stCells s) _ _ l0 Tryd.underlying32 rfl (by kernel_rfl) ?_)
      refine (INN _).mono ?_
      rintro e w4 ⟨rfl, hb⟩
      replace bel := bel.trans (hb.mono bel.size)
      replace l0 := below_lies hb l0 (lies_lt l0)
      replace l1 := below_lies hb l1 (lies_lt l1)
      clear hb
      go_wp2_with ((with_reducible show wpList _ _ _ (⟨none, Op.store 27 (Operand.tmp 8) (Operand.tmp 50), _, _, _, _⟩ :: _) _ _); refine wpList_putA rfl _ _ _ rfl rfl _ 0 3 [.int .i64 r0, .int .i64 r1, .int .i64 r2] _ _ rfl rfl l1 rfl (by kernel_rfl) (by kernel_rfl) (by kernel_rfl) ?_; intro w9 p9 l9 n9; replace l1 := l9.trans (congrArg (fun c => some (Obj.cells c 27 (0, 0))) (show _ = (#[.int .i64 r0, .int .i64 r1, .int .i64 r2] : Array Value) by kernel_rfl)); replace bel := p9.below bel (by omega); clear l9 n9 p9)
      exact bodyPost_ret (v := .tuple #[.agg (#[.int .i64 r0, .int .i64 r1, .int .i64 r2]), .bool true]) (results_row_tmp Tryd.results12 _ _ _ _ (#[.int .i64 r0, .int .i64 r1, .int .i64 r2]) _ _ _ rfl l1 Tryd.underlying27 rfl (by kernel_rfl) rfl) rfl ⟨rfl, bel⟩
theorem okA_gd {s : St} {b : Int} (h : gdB s b = false) : okA s b = false := by
  unfold okA
  rw [show (styleB s && inB 0 1000000 b) = false from h]
  rfl
theorem specBlock_any (s : St) (b : Int) (w : World) :
    Calls Tryd.prog 8 #[.agg #[.int .i64 s.sh, .int .i64 s.fl, .int .i64 s.cl, .bool s.w.a, .bool s.w.p, .int .i64 s.w.n, .bool s.h.a, .bool s.h.p, .int .i64 s.h.n, .int .i64 s.mn, .int .i64 s.mx, .int .i64 s.mt, .bool s.mr.a, .bool s.mr.p, .int .i64 s.mr.n, .int .i64 s.mb, .bool s.ml.a, .bool s.ml.p, .int .i64 s.ml.n, .int .i64 s.bo, .int .i64 s.pa, .int .i64 s.wh, .int .i64 s.al, .int .i64 s.lh, .int .i64 s.ri, .int .i64 s.dn], .int .i64 b] w fun e w' => e = .returned (blV s b) ∧ Below w.heap.size w w' := by
  rcases Bool.eq_false_or_eq_true (okA s b) with ha | ha
  · have h := blockS_y s b w ha
    rw [bl_yes ha] at h
    exact h
  · rcases Bool.eq_false_or_eq_true (gdB s b) with hg | hg
    · have h := blockS_a s b w hg ha
      rw [bl_no ha] at h
      exact h
    · have h := blockS_g s b w hg
      rw [bl_no ha] at h
      exact h
theorem specFloat_any (s : St) (b nr wi : Int) (w : World) :
    Calls Tryd.prog 12 #[.agg #[.int .i64 s.sh, .int .i64 s.fl, .int .i64 s.cl, .bool s.w.a, .bool s.w.p, .int .i64 s.w.n, .bool s.h.a, .bool s.h.p, .int .i64 s.h.n, .int .i64 s.mn, .int .i64 s.mx, .int .i64 s.mt, .bool s.mr.a, .bool s.mr.p, .int .i64 s.mr.n, .int .i64 s.mb, .bool s.ml.a, .bool s.ml.p, .int .i64 s.ml.n, .int .i64 s.bo, .int .i64 s.pa, .int .i64 s.wh, .int .i64 s.al, .int .i64 s.lh, .int .i64 s.ri, .int .i64 s.dn], .int .i64 b, .int .i64 nr, .int .i64 wi] w fun e w' => e = .returned (flV s b nr wi) ∧ Below w.heap.size w w' := by
  rcases Bool.eq_false_or_eq_true (gdB s b) with hg | hg
  rotate_left
  · have h := floatS_g s b nr wi w hg
    rw [fl_no (s := s) (b := b) (nr := nr) (wi := wi) (by unfold okF; rw [okA_gd hg]; rfl)] at h
    exact h
  rcases Bool.eq_false_or_eq_true (inB 0 1000000 nr) with h1 | h1
  rotate_left
  · have h := floatS_n s b nr wi w hg h1
    rw [fl_no (s := s) (b := b) (nr := nr) (wi := wi) (by unfold okF; rw [h1]; simp)] at h
    exact h
  rcases Bool.eq_false_or_eq_true (inB 0 1000000 wi) with h2 | h2
  rotate_left
  · have h := floatS_w s b nr wi w hg h1 h2
    rw [fl_no (s := s) (b := b) (nr := nr) (wi := wi) (by unfold okF; rw [h2]; simp)] at h
    exact h
  rcases Bool.eq_false_or_eq_true (okA s b) with ha | ha
  · have h := floatS_y s b nr wi w ha h1 h2
    rw [fl_yes (s := s) (b := b) (nr := nr) (wi := wi) (by unfold okF; rw [ha, h1, h2]; rfl)] at h
    exact h
  · have h := floatS_a s b nr wi w hg ha h1 h2
    rw [fl_no (s := s) (b := b) (nr := nr) (wi := wi) (by unfold okF; rw [ha]; rfl)] at h
    exact h
end Go.Proofs.YtijondjiehoafaaDoor
