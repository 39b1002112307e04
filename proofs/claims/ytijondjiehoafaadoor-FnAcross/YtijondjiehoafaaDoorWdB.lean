/-
  The program's BlockAcross, for every style and every width around.
-/
import Derived.Test.YtijondjiehoafaaDoorWdK
import Derived.Laws.StructEq
namespace Go.Proofs.YtijondjiehoafaaDoor
open Go.ChangeShapes Go.WideShapes Go.ChangeAt Go.RowKit
set_option linter.unusedVariables false

theorem eqAc_held : Tryd.prog.stoodInHeld 27 = false := by kernel_rfl
theorem eqAc_guard : Tryd.prog.eqGuardType Tryd.prog.depth 27 = false := by kernel_rfl
theorem eqAc_fields : Tryd.prog.underlying 27 = some (.struct (Tryd.prog.fieldsOf 27)) := by kernel_rfl
theorem neAc_run (l x y r : Int) (w : World) :
    (binOp .neq 27 (.agg #[.int .i64 l, .int .i64 x, .int .i64 r]) (.agg #[.int .i64 l, .int .i64 y, .int .i64 r])).run Tryd.prog w = .ok (.bool (decide (x ≠ y))) w := by
  rw [run_neq_struct, run_equalIn_agg _ _ _ _ _ eqAc_fields eqAc_held]
  simp only [Program.fieldsOf, Tryd.underlying27]
  by_cases h : x = y <;> simp [Op.eqFields, go_sem, Tryd.underlying3, h]
def Sy (s : St) (g q : Nat) (l x r : Int) (W : World) : Prop := W.heap[g]? = some (.cells (stCells s) 32 (0, 0)) ∧ W.heap[q]? = some (.cells #[.int .i64 l, .int .i64 x, .int .i64 r] 27 (0, 0))

set_option maxRecDepth 100000 in
set_option maxHeartbeats 4000000 in
theorem block_a (s : St) (b : Int) (w : World) (et : TypeId) (ev : Value) (he : w.cell? ⟨1, 0, none⟩ = some (.iface et ev)) (ha : okA s b = false) :
    Calls Tryd.prog 10 #[.agg #[.int .i64 s.sh, .int .i64 s.fl, .int .i64 s.cl, .bool s.w.a, .bool s.w.p, .int .i64 s.w.n, .bool s.h.a, .bool s.h.p, .int .i64 s.h.n, .int .i64 s.mn, .int .i64 s.mx, .int .i64 s.mt, .bool s.mr.a, .bool s.mr.p, .int .i64 s.mr.n, .int .i64 s.mb, .bool s.ml.a, .bool s.ml.p, .int .i64 s.ml.n, .int .i64 s.bo, .int .i64 s.pa, .int .i64 s.wh, .int .i64 s.al, .int .i64 s.lh, .int .i64 s.ri, .int .i64 s.dn], .int .i64 b] w fun e w' => e = .returned (.tuple #[.agg (#[.int .i64 0, .int .i64 0, .int .i64 0]), .bool false]) ∧ Below w.heap.size w w' := by
  have l0 : ((w.alloc (.cells (#[.int .i64 s.sh, .int .i64 s.fl, .int .i64 s.cl, .bool s.w.a, .bool s.w.p, .int .i64 s.w.n, .bool s.h.a, .bool s.h.p, .int .i64 s.h.n, .int .i64 s.mn, .int .i64 s.mx, .int .i64 s.mt, .bool s.mr.a, .bool s.mr.p, .int .i64 s.mr.n, .int .i64 s.mb, .bool s.ml.a, .bool s.ml.p, .int .i64 s.ml.n, .int .i64 s.bo, .int .i64 s.pa, .int .i64 s.wh, .int .i64 s.al, .int .i64 s.lh, .int .i64 s.ri, .int .i64 s.dn]) 32)).alloc (.cells (#[.int .i64 0, .int .i64 0, .int .i64 0]) 27)).heap[w.heap.size]? = some (.cells (stCells s) 32 (0, 0)) := heap_in (heap_at _ _ _ rfl)
  have l1 : ((w.alloc (.cells (#[.int .i64 s.sh, .int .i64 s.fl, .int .i64 s.cl, .bool s.w.a, .bool s.w.p, .int .i64 s.w.n, .bool s.h.a, .bool s.h.p, .int .i64 s.h.n, .int .i64 s.mn, .int .i64 s.mx, .int .i64 s.mt, .bool s.mr.a, .bool s.mr.p, .int .i64 s.mr.n, .int .i64 s.mb, .bool s.ml.a, .bool s.ml.p, .int .i64 s.ml.n, .int .i64 s.bo, .int .i64 s.pa, .int .i64 s.wh, .int .i64 s.al, .int .i64 s.lh, .int .i64 s.ri, .int .i64 s.dn]) 32)).alloc (.cells (#[.int .i64 0, .int .i64 0, .int .i64 0]) 27)).heap[w.heap.size + 1]? = some (.cells (#[.int .i64 0, .int .i64 0, .int .i64 0]) 27 (0, 0)) := heap_at _ _ _ (by simp)
  have bel : Below w.heap.size w ((w.alloc (.cells (#[.int .i64 s.sh, .int .i64 s.fl, .int .i64 s.cl, .bool s.w.a, .bool s.w.p, .int .i64 s.w.n, .bool s.h.a, .bool s.h.p, .int .i64 s.h.n, .int .i64 s.mn, .int .i64 s.mx, .int .i64 s.mt, .bool s.mr.a, .bool s.mr.p, .int .i64 s.mr.n, .int .i64 s.mb, .bool s.ml.a, .bool s.ml.p, .int .i64 s.ml.n, .int .i64 s.bo, .int .i64 s.pa, .int .i64 s.wh, .int .i64 s.al, .int .i64 s.lh, .int .i64 s.ri, .int .i64 s.dn]) 32)).alloc (.cells (#[.int .i64 0, .int .i64 0, .int .i64 0]) 27)) := ((Below.refl _ _).alloc (Nat.le_refl _) _).alloc (by simp) _
  have lte : 1 < w.heap.size := World.block_lt_of_cell? _ ⟨1, 0, none⟩ he
  have IT := isTold_any s b ((w.alloc (.cells (#[.int .i64 s.sh, .int .i64 s.fl, .int .i64 s.cl, .bool s.w.a, .bool s.w.p, .int .i64 s.w.n, .bool s.h.a, .bool s.h.p, .int .i64 s.h.n, .int .i64 s.mn, .int .i64 s.mx, .int .i64 s.mt, .bool s.mr.a, .bool s.mr.p, .int .i64 s.mr.n, .int .i64 s.mb, .bool s.ml.a, .bool s.ml.p, .int .i64 s.ml.n, .int .i64 s.bo, .int .i64 s.pa, .int .i64 s.wh, .int .i64 s.al, .int .i64 s.lh, .int .i64 s.ri, .int .i64 s.dn]) 32)).alloc (.cells (#[.int .i64 0, .int .i64 0, .int .i64 0]) 27)) et ev ((bel.cell (p := ⟨1, 0, none⟩) lte).trans he)
  clear he
  rw [ha] at IT
  clear ha
  go_enter Tryd.func10, Tryd.ntmps10
  go_wp2_with ((with_reducible show wpList _ _ _ (⟨some 6, Op.load 32 _, _, _, _, _⟩ :: _) _ _); refine wpList_load_row rfl 32 _ rfl (w.heap.size) rfl _ (stCells s) _ _ l0 Tryd.underlying32 rfl (by kernel_rfl) ?_)
  refine IT.mono ?_
  rintro e w1 ⟨rfl, hb⟩
  replace bel := bel.trans (hb.mono bel.size)
  replace l0 := below_lies hb l0 (lies_lt l0)
  replace l1 := below_lies hb l1 (lies_lt l1)
  clear hb
  go_wp2_with ((with_reducible show wpList _ _ _ (⟨none, Op.store 27 (Operand.tmp 4) (Operand.tmp 10), _, _, _, _⟩ :: _) _ _); refine wpList_putA rfl _ _ _ rfl rfl _ 0 3 [.int .i64 0, .int .i64 0, .int .i64 0] _ _ rfl rfl l1 rfl (by kernel_rfl) (by kernel_rfl) (by kernel_rfl) ?_; intro w9 p9 l9 n9; replace l1 := l9.trans (congrArg (fun c => some (Obj.cells c 27 (0, 0))) (show _ = (#[.int .i64 0, .int .i64 0, .int .i64 0] : Array Value) by kernel_rfl)); replace l0 := p9.lies l0 (by omega); replace bel := p9.below bel (by omega); clear l9 n9 p9)
  exact bodyPost_ret (v := .tuple #[.agg (#[.int .i64 0, .int .i64 0, .int .i64 0]), .bool false]) (results_row_tmp Tryd.results10 _ _ _ _ (#[.int .i64 0, .int .i64 0, .int .i64 0]) _ _ _ rfl l1 Tryd.underlying27 rfl (by kernel_rfl) rfl) rfl ⟨rfl, bel⟩
set_option maxRecDepth 100000 in
set_option maxHeartbeats 4000000 in
theorem block_told (s : St) (b : Int) (w : World) (ha : okA s b = true) (hw : s.w.a = false) :
    Calls Tryd.prog 34 #[.agg #[.int .i64 s.sh, .int .i64 s.fl, .int .i64 s.cl, .bool s.w.a, .bool s.w.p, .int .i64 s.w.n, .bool s.h.a, .bool s.h.p, .int .i64 s.h.n, .int .i64 s.mn, .int .i64 s.mx, .int .i64 s.mt, .bool s.mr.a, .bool s.mr.p, .int .i64 s.mr.n, .int .i64 s.mb, .bool s.ml.a, .bool s.ml.p, .int .i64 s.ml.n, .int .i64 s.bo, .int .i64 s.pa, .int .i64 s.wh, .int .i64 s.al, .int .i64 s.lh, .int .i64 s.ri, .int .i64 s.dn], .int .i64 b] w fun e w' => e = .returned (.agg (#[.int .i64 (lbZ s (mlN s b) (mrN s b) (b - eg s - blW s b)), .int .i64 (blW s b), .int .i64 (b - eg s - blW s b - (lbZ s (mlN s b) (mrN s b) (b - eg s - blW s b)))])) ∧ Below w.heap.size w w' := by
  have l0 : ((w.alloc (.cells (#[.int .i64 s.sh, .int .i64 s.fl, .int .i64 s.cl, .bool s.w.a, .bool s.w.p, .int .i64 s.w.n, .bool s.h.a, .bool s.h.p, .int .i64 s.h.n, .int .i64 s.mn, .int .i64 s.mx, .int .i64 s.mt, .bool s.mr.a, .bool s.mr.p, .int .i64 s.mr.n, .int .i64 s.mb, .bool s.ml.a, .bool s.ml.p, .int .i64 s.ml.n, .int .i64 s.bo, .int .i64 s.pa, .int .i64 s.wh, .int .i64 s.al, .int .i64 s.lh, .int .i64 s.ri, .int .i64 s.dn]) 32)).alloc (.cells (#[.int .i64 0, .int .i64 0, .int .i64 0]) 27)).heap[w.heap.size]? = some (.cells (stCells s) 32 (0, 0)) := heap_in (heap_at _ _ _ rfl)
  have l1 : ((w.alloc (.cells (#[.int .i64 s.sh, .int .i64 s.fl, .int .i64 s.cl, .bool s.w.a, .bool s.w.p, .int .i64 s.w.n, .bool s.h.a, .bool s.h.p, .int .i64 s.h.n, .int .i64 s.mn, .int .i64 s.mx, .int .i64 s.mt, .bool s.mr.a, .bool s.mr.p, .int .i64 s.mr.n, .int .i64 s.mb, .bool s.ml.a, .bool s.ml.p, .int .i64 s.ml.n, .int .i64 s.bo, .int .i64 s.pa, .int .i64 s.wh, .int .i64 s.al, .int .i64 s.lh, .int .i64 s.ri, .int .i64 s.dn]) 32)).alloc (.cells (#[.int .i64 0, .int .i64 0, .int .i64 0]) 27)).heap[w.heap.size + 1]? = some (.cells (#[.int .i64 0, .int .i64 0, .int .i64 0]) 27 (0, 0)) := heap_at _ _ _ (by simp)
  have bel : Below w.heap.size w ((w.alloc (.cells (#[.int .i64 s.sh, .int .i64 s.fl, .int .i64 s.cl, .bool s.w.a, .bool s.w.p, .int .i64 s.w.n, .bool s.h.a, .bool s.h.p, .int .i64 s.h.n, .int .i64 s.mn, .int .i64 s.mx, .int .i64 s.mt, .bool s.mr.a, .bool s.mr.p, .int .i64 s.mr.n, .int .i64 s.mb, .bool s.ml.a, .bool s.ml.p, .int .i64 s.ml.n, .int .i64 s.bo, .int .i64 s.pa, .int .i64 s.wh, .int .i64 s.al, .int .i64 s.lh, .int .i64 s.ri, .int .i64 s.dn]) 32)).alloc (.cells (#[.int .i64 0, .int .i64 0, .int .i64 0]) 27)) := ((Below.refl _ _).alloc (Nat.le_refl _) _).alloc (by simp) _
  obtain ⟨hs, hb0, i1, i2, i3⟩ := okA_yes ha
  obtain ⟨k1, k2⟩ := inB_yes hb0
  obtain ⟨k3, k4⟩ := inB_yes i1
  obtain ⟨k5, k6⟩ := inB_yes i3
  have ED := fun w => edges_any s w hs
  obtain ⟨g1, g2⟩ := eg_bd hs
  obtain ⟨_, _, _, _, n1, n2, _, _⟩ := style_bd hs
  have CU := fun w => cut_any s (mlN s b) (w0 s b) (mrN s b) w
  have CW : 0 ≤ blW s b ∧ blW s b ≤ 10000000 := clZ_bd (by unfold w0; first | (rw [if_pos hw]; omega) | (rw [if_neg (by rw [hw]; decide)]; exact Int.le_trans (by decide) (inB_yes i2).1)) (by unfold w0; first | (rw [if_pos hw]; omega) | (rw [if_neg (by rw [hw]; decide)]; exact Int.le_trans (inB_yes i2).2 (by decide))) n1 n2
  obtain ⟨cw1, cw2⟩ := CW
  rw [show clZ (w0 s b) s.mn s.mx = blW s b from rfl] at CU
  have HX : w0 s b = wdN s b := by unfold w0; rw [if_neg (by rw [hw]; decide)]
  rw [HX] at CU
  clear HX
  have GD := fun (w : World) (x y : Operand) => run_eqGuard_agg (P := Tryd.prog) w .neq 27 x y (#[.int .i64 (mlN s b), .int .i64 (blW s b), .int .i64 (mrN s b)]) (#[.int .i64 (mlN s b), .int .i64 (wdN s b), .int .i64 (mrN s b)]) eqAc_guard
  generalize eg s = eg0 at ED g1 g2 ⊢
  generalize blW s b = cw at CU cw1 cw2 GD ⊢
  have LF := fun w => left_any s (mlN s b) (wdN s b) (mrN s b) (b - eg0 - cw) w k5 k6 (by omega) (by omega)
  have LB : -1000000000 ≤ lbZ s (mlN s b) (mrN s b) (b - eg0 - cw) ∧ lbZ s (mlN s b) (mrN s b) (b - eg0 - cw) ≤ 1000000000 := by
    unfold lbZ
    rw [down2]
    split
    · split <;> omega
    · omega
  obtain ⟨lb1, lb2⟩ := LB
  generalize lbZ s (mlN s b) (mrN s b) (b - eg0 - cw) = lb at LF lb1 lb2 ⊢
  have TD := told_any s b ((w.alloc (.cells (#[.int .i64 s.sh, .int .i64 s.fl, .int .i64 s.cl, .bool s.w.a, .bool s.w.p, .int .i64 s.w.n, .bool s.h.a, .bool s.h.p, .int .i64 s.h.n, .int .i64 s.mn, .int .i64 s.mx, .int .i64 s.mt, .bool s.mr.a, .bool s.mr.p, .int .i64 s.mr.n, .int .i64 s.mb, .bool s.ml.a, .bool s.ml.p, .int .i64 s.ml.n, .int .i64 s.bo, .int .i64 s.pa, .int .i64 s.wh, .int .i64 s.al, .int .i64 s.lh, .int .i64 s.ri, .int .i64 s.dn]) 32)).alloc (.cells (#[.int .i64 0, .int .i64 0, .int .i64 0]) 27)) (okA_yes ha).1 (okA_yes ha).2.1
  generalize mlN s b = vl at TD CU GD k3 k4 LF
  generalize wdN s b = vd at TD GD CU LF
  generalize mrN s b = vm at TD CU GD k5 k6 LF
  have c3 : Hid (∀ W : World, W.heap[w.heap.size]? = some (.cells (stCells s) 32 (0, 0)) → W.cell? ⟨w.heap.size, 3, none⟩ = some (.bool false)) := fun W h => (lies_cell h 3).trans (by show some (Value.bool s.w.a) = _; rw [hw])
  clear ha hw hs hb0 i1 i2 i3 n1 n2
  go_enter Tryd.func34, Tryd.ntmps34
  go_wp2_with ((with_reducible show wpList _ _ _ (⟨some 8, Op.load 32 _, _, _, _, _⟩ :: _) _ _); refine wpList_load_row rfl 32 _ rfl (w.heap.size) rfl _ (stCells s) _ _ l0 Tryd.underlying32 rfl (by kernel_rfl) ?_)
  refine TD.mono ?_
  rintro e w1 ⟨rfl, hb⟩
  replace bel := bel.trans (hb.mono bel.size)
  replace l0 := below_lies hb l0 (lies_lt l0)
  replace l1 := below_lies hb l1 (lies_lt l1)
  clear hb
  have z1 : w.heap.size + 1 < w1.heap.size := lies_lt l1
  go_wp2_with (first | ((with_reducible show wpList _ _ _ (⟨none, Op.store 27 (Operand.tmp 5) (Operand.tmp 10), _, _, _, _⟩ :: _) _ _); refine wpList_store_new rfl 27 _ _ rfl rfl (#[.int .i64 vl, .int .i64 vd, .int .i64 vm]) 27 _ _ rfl rfl rfl (by kernel_rfl) rfl (by kernel_rfl) ?_; have l2 := heap_at w1 (.cells (#[.int .i64 vl, .int .i64 vd, .int .i64 vm]) 27) _ rfl; replace l0 := heap_in (o := .cells (#[.int .i64 vl, .int .i64 vd, .int .i64 vm]) 27) l0; replace l1 := heap_in (o := .cells (#[.int .i64 vl, .int .i64 vd, .int .i64 vm]) 27) l1; replace bel := bel.alloc bel.size (.cells (#[.int .i64 vl, .int .i64 vd, .int .i64 vm]) 27); have e3 := c3.out _ l0) | ((with_reducible show wpList _ _ _ (⟨some 20, Op.load 32 _, _, _, _, _⟩ :: _) _ _); refine wpList_load_row rfl 32 _ rfl (w.heap.size) rfl _ (stCells s) _ _ l0 Tryd.underlying32 rfl (by kernel_rfl) ?_) | ((with_reducible show wpList _ _ _ (⟨some 21, Op.load 27 _, _, _, _, _⟩ :: _) _ _); refine wpList_load_row rfl 27 _ rfl (w1.heap.size) rfl _ (#[.int .i64 vl, .int .i64 vd, .int .i64 vm]) _ _ l2 Tryd.underlying27 rfl (by kernel_rfl) ?_))
  refine (CU _).mono ?_
  rintro e w3 ⟨rfl, hb⟩
  replace bel := bel.trans (hb.mono bel.size)
  replace l0 := below_lies hb l0 (lies_lt l0)
  replace l1 := below_lies hb l1 (lies_lt l1)
  replace l2 := below_lies hb l2 (lies_lt l2)
  clear hb
  have z3 : w1.heap.size < w3.heap.size := lies_lt l2
  go_wp2_with ((with_reducible show wpList _ _ _ (⟨none, Op.store 27 (Operand.tmp 6) (Operand.tmp 22), _, _, _, _⟩ :: _) _ _); refine wpList_store_new rfl 27 _ _ rfl rfl (#[.int .i64 vl, .int .i64 cw, .int .i64 vm]) 27 _ _ rfl rfl rfl (by kernel_rfl) rfl (by kernel_rfl) ?_; have l3 := heap_at w3 (.cells (#[.int .i64 vl, .int .i64 cw, .int .i64 vm]) 27) _ rfl; replace l0 := heap_in (o := .cells (#[.int .i64 vl, .int .i64 cw, .int .i64 vm]) 27) l0; replace l1 := heap_in (o := .cells (#[.int .i64 vl, .int .i64 cw, .int .i64 vm]) 27) l1; replace l2 := heap_in (o := .cells (#[.int .i64 vl, .int .i64 cw, .int .i64 vm]) 27) l2; replace bel := bel.alloc bel.size (.cells (#[.int .i64 vl, .int .i64 cw, .int .i64 vm]) 27))
  have hS : Sy s w.heap.size w3.heap.size vl cw vm (w3.alloc (.cells (#[.int .i64 vl, .int .i64 cw, .int .i64 vm]) 27)) := ⟨l0, l3⟩
  refine wp_region_held_drew (S := Sy s w.heap.size w3.heap.size vl cw vm) (by kernel_rfl) hS (fun hHeld => ?_)
  refine wpAnyH_take (i := 0) (oi := { dst := some 23, op := Op.move (Operand.tmp 1), type := 3, pos := "l6_width.go:62", after := #[], guard := none }) (v := .int .i64 b) rfl (by kernel_rfl) (by kernel_rfl) (by kernel_rfl) (fun _ _ _ h => h) (Or.inl ⟨by rfl, by intro w hSw; go_simp⟩) hHeld ?_
  simp only [Act.put, List.setIfInBounds_toArray, List.set_cons_zero, List.set_cons_succ]
  refine wpAnyH_take (i := 1) (oi := { dst := some 24, op := Op.load 32 (Operand.tmp 2), type := 32, pos := "l6_width.go:62", after := #[], guard := none }) (v := .agg ((stCells s).toList).toArray) rfl (by kernel_rfl) (by kernel_rfl) (by kernel_rfl) (fun _ _ _ h => h) (yieldsIf_load_mid (by rfl) 32 _ rfl (w.heap.size) 0 rfl ((stCells s).toList) _ (fun wz hw => range_lies hw.1) Tryd.underlying32 rfl (by kernel_rfl)) hHeld ?_
  simp only [Act.put, List.setIfInBounds_toArray, List.set_cons_zero, List.set_cons_succ]
  refine wpAnyH_take (i := 4) (oi := { dst := some 27, op := Op.fieldAddr 27 (Operand.tmp 6) 1, type := 0, pos := "l6_width.go:62", after := #[], guard := none }) (v := .pointer (some ⟨w3.heap.size, 1, none⟩)) rfl (by kernel_rfl) (by kernel_rfl) (by kernel_rfl) (fun _ _ _ h => h) (Or.inl ⟨by rfl, by intro w hSw; go_simp⟩) hHeld ?_
  simp only [Act.put, List.setIfInBounds_toArray, List.set_cons_zero, List.set_cons_succ]
  refine wpAnyH_take (i := 5) (oi := { dst := some 28, op := Op.load 3 (Operand.tmp 27), type := 3, pos := "l6_width.go:62", after := #[⟨4, Ground.data⟩], guard := none }) (v := .int .i64 cw) rfl (by kernel_rfl) (by kernel_rfl) (by kernel_rfl) (fun _ _ _ h => h) (Or.inl ⟨by rfl, by intro wz hSw; have hq : wz.cell? ⟨w3.heap.size, 1, none⟩ = some (.int .i64 cw) := (lies_cell hSw.2 1).trans rfl; clear hSw; go_simp⟩) hHeld ?_
  simp only [Act.put, List.setIfInBounds_toArray, List.set_cons_zero, List.set_cons_succ]
  refine wpAnyH_ready (rs := [2]) (by kernel_rfl) (by simp) ?_
  refine AllReadyH.cons (o := { dst := some 25, op := Op.call { callee := Callee.value (Operand.func 72), args := #[Operand.tmp 24], argTypes := #[32] }, type := 3, pos := "l6_width.go:62", after := #[⟨1, Ground.data⟩], guard := none }) rfl (fun K hK => ?_) AllReadyH.nil
  go_simp
  refine (ED _).mono ?_
  rintro e w4 ⟨rfl, hb⟩
  have hx2 : Sy s w.heap.size w3.heap.size vl cw vm w4 := ⟨below_lies hb hHeld.1 (lies_lt hHeld.1), below_lies hb hHeld.2 (lies_lt hHeld.2)⟩
  go_wp2_with fail
  refine hK.out _ _ hx2 (fun hHeld2 => ?_)
  clear hK K
  try simp only [Act.put, List.setIfInBounds_toArray, List.set_cons_zero, List.set_cons_succ]
  refine wpAnyH_take (i := 3) (oi := { dst := some 26, op := Op.binOp BinOp.sub 3 (Operand.tmp 23) (Operand.tmp 25) 3, type := 3, pos := "l6_width.go:62", after := #[⟨0, Ground.data⟩, ⟨2, Ground.data⟩], guard := none }) (v := .int .i64 (b - eg0)) rfl (by kernel_rfl) (by kernel_rfl) (by kernel_rfl) (fun _ _ _ h => h) (Or.inl ⟨by rfl, by intro wz hSw; go_simp; exact wrap6 (by omega) (by omega)⟩) hHeld2 ?_
  simp only [Act.put, List.setIfInBounds_toArray, List.set_cons_zero, List.set_cons_succ]
  refine wpAnyH_take (i := 6) (oi := { dst := some 29, op := Op.binOp BinOp.sub 3 (Operand.tmp 26) (Operand.tmp 28) 3, type := 3, pos := "l6_width.go:62", after := #[⟨3, Ground.data⟩, ⟨5, Ground.data⟩], guard := none }) (v := .int .i64 ((b - eg0) - cw)) rfl (by kernel_rfl) (by kernel_rfl) (by kernel_rfl) (fun _ _ _ h => h) (Or.inl ⟨by rfl, by intro wz hSw; go_simp; exact wrap6 (by omega) (by omega)⟩) hHeld2 ?_
  simp only [Act.put, List.setIfInBounds_toArray, List.set_cons_zero, List.set_cons_succ]
  refine wpAnyH_take (i := 7) (oi := { dst := some 7, op := Op.assign (Operand.tmp 29), type := 3, pos := "l6_width.go:62", after := #[⟨6, Ground.data⟩, ⟨2, Ground.chain⟩, ⟨0, Ground.phase⟩, ⟨1, Ground.phase⟩, ⟨2, Ground.phase⟩, ⟨3, Ground.phase⟩, ⟨4, Ground.phase⟩, ⟨5, Ground.phase⟩, ⟨6, Ground.phase⟩], guard := none }) (v := .int .i64 ((b - eg0) - cw)) rfl (by kernel_rfl) (by kernel_rfl) (by kernel_rfl) (fun _ _ _ h => h) (Or.inl ⟨by rfl, by intro w hSw; go_simp⟩) hHeld2 ?_
  simp only [Act.put, List.setIfInBounds_toArray, List.set_cons_zero, List.set_cons_succ]
  refine wpAnyH_done (by kernel_rfl) ?_ _
  replace bel : Below w.heap.size w w4 := bel.trans (Below.mono (B := (w3.alloc (.cells (#[.int .i64 vl, .int .i64 cw, .int .i64 vm]) 27)).heap.size) ⟨hb.os, hb.tape, hb.output, hb.size, hb.block⟩ bel.size)
  replace l0 := below_lies (B := (w3.alloc (.cells (#[.int .i64 vl, .int .i64 cw, .int .i64 vm]) 27)).heap.size) (w := (w3.alloc (.cells (#[.int .i64 vl, .int .i64 cw, .int .i64 vm]) 27))) (w' := w4) ⟨hb.os, hb.tape, hb.output, hb.size, hb.block⟩ l0 (lies_lt l0)
  replace l1 := below_lies (B := (w3.alloc (.cells (#[.int .i64 vl, .int .i64 cw, .int .i64 vm]) 27)).heap.size) (w := (w3.alloc (.cells (#[.int .i64 vl, .int .i64 cw, .int .i64 vm]) 27))) (w' := w4) ⟨hb.os, hb.tape, hb.output, hb.size, hb.block⟩ l1 (lies_lt l1)
  replace l2 := below_lies (B := (w3.alloc (.cells (#[.int .i64 vl, .int .i64 cw, .int .i64 vm]) 27)).heap.size) (w := (w3.alloc (.cells (#[.int .i64 vl, .int .i64 cw, .int .i64 vm]) 27))) (w' := w4) ⟨hb.os, hb.tape, hb.output, hb.size, hb.block⟩ l2 (lies_lt l2)
  replace l3 := below_lies (B := (w3.alloc (.cells (#[.int .i64 vl, .int .i64 cw, .int .i64 vm]) 27)).heap.size) (w := (w3.alloc (.cells (#[.int .i64 vl, .int .i64 cw, .int .i64 vm]) 27))) (w' := w4) ⟨hb.os, hb.tape, hb.output, hb.size, hb.block⟩ l3 (lies_lt l3)
  clear hb hHeld hHeld2 hx2 hS
  have e3 := c3.out _ l0
  have d0 : w4.cell? ⟨w3.heap.size, 0, none⟩ = some (.int .i64 vl) := (lies_cell l3 0).trans rfl
  have d1 : w4.cell? ⟨w3.heap.size, 1, none⟩ = some (.int .i64 cw) := (lies_cell l3 1).trans rfl
  have d2 : w4.cell? ⟨w3.heap.size, 2, none⟩ = some (.int .i64 vm) := (lies_cell l3 2).trans rfl
  go_wp2_with (first | ((with_reducible show wpList _ _ _ (⟨some 39, Op.load 32 _, _, _, _, _⟩ :: _) _ _); refine wpList_load_row rfl 32 _ rfl (w.heap.size) rfl _ (stCells s) _ _ l0 Tryd.underlying32 rfl (by kernel_rfl) ?_) | ((with_reducible show wpList _ _ _ (⟨some 40, Op.load 27 _, _, _, _, _⟩ :: _) _ _); refine wpList_load_row rfl 27 _ rfl (w1.heap.size) rfl _ (#[.int .i64 vl, .int .i64 vd, .int .i64 vm]) _ _ l2 Tryd.underlying27 rfl (by kernel_rfl) ?_))
  refine (LF _).mono ?_
  rintro e w5 ⟨rfl, hb⟩
  replace bel := bel.trans (hb.mono bel.size)
  replace l0 := below_lies hb l0 (lies_lt l0)
  replace l1 := below_lies hb l1 (lies_lt l1)
  replace l2 := below_lies hb l2 (lies_lt l2)
  replace l3 := below_lies hb l3 (lies_lt l3)
  clear hb
  clear e3 d0 d1 d2
  go_wp2_with (first | ((with_reducible show wpList _ _ _ (⟨none, Op.store 3 (Operand.tmp 43) _, _, _, _, _⟩ :: _) _ _); refine wpList_putA rfl _ _ _ rfl rfl _ 0 3 [.int .i64 lb] _ _ rfl rfl l3 rfl (by kernel_rfl) (by kernel_rfl) (by kernel_rfl) ?_; intro w9 p9 l9 n9; replace l3 := l9.trans (congrArg (fun c => some (Obj.cells c 27 (0, 0))) (show _ = (#[.int .i64 lb, .int .i64 cw, .int .i64 vm] : Array Value) by kernel_rfl)); replace l0 := p9.lies l0 (by omega); replace l1 := p9.lies l1 (by omega); replace l2 := p9.lies l2 (by omega); replace bel := p9.below bel (by omega); clear l9 n9 p9; have f0 : w9.cell? ⟨w3.heap.size, 0, none⟩ = some (.int .i64 lb) := (lies_cell l3 0).trans rfl) | ((with_reducible show wpList _ _ _ (⟨none, Op.store 3 (Operand.tmp 48) _, _, _, _, _⟩ :: _) _ _); refine wpList_putA rfl _ _ _ rfl rfl _ 2 3 [.int .i64 (b - eg0 - cw - lb)] _ _ rfl rfl l3 rfl (by kernel_rfl) (by kernel_rfl) (by kernel_rfl) ?_; intro w9 p9 l9 n9; replace l3 := l9.trans (congrArg (fun c => some (Obj.cells c 27 (0, 0))) (show _ = (#[.int .i64 lb, .int .i64 cw, .int .i64 (b - eg0 - cw - lb)] : Array Value) by kernel_rfl)); replace l0 := p9.lies l0 (by omega); replace l1 := p9.lies l1 (by omega); replace l2 := p9.lies l2 (by omega); replace bel := p9.below bel (by omega); clear l9 n9 p9) | ((with_reducible show wpList _ _ _ (⟨some 49, Op.load 27 _, _, _, _, _⟩ :: _) _ _); refine wpList_load_row rfl 27 _ rfl (w3.heap.size) rfl _ (#[.int .i64 lb, .int .i64 cw, .int .i64 (b - eg0 - cw - lb)]) _ _ l3 Tryd.underlying27 rfl (by kernel_rfl) ?_) | ((with_reducible show wpList _ _ _ (⟨none, Op.store 27 (Operand.tmp 4) (Operand.tmp 49), _, _, _, _⟩ :: _) _ _); refine wpList_putA rfl _ _ _ rfl rfl _ 0 3 [.int .i64 lb, .int .i64 cw, .int .i64 (b - eg0 - cw - lb)] _ _ rfl rfl l1 rfl (by kernel_rfl) (by kernel_rfl) (by kernel_rfl) ?_; intro w9 p9 l9 n9; replace l1 := l9.trans (congrArg (fun c => some (Obj.cells c 27 (0, 0))) (show _ = (#[.int .i64 lb, .int .i64 cw, .int .i64 (b - eg0 - cw - lb)] : Array Value) by kernel_rfl)); replace bel := p9.below bel (by omega); clear l9 n9 p9))
  exact bodyPost_ret (v := .agg (#[.int .i64 lb, .int .i64 cw, .int .i64 (b - eg0 - cw - lb)])) (results_cell_row Tryd.results34 _ _ _ _ (#[.int .i64 lb, .int .i64 cw, .int .i64 (b - eg0 - cw - lb)]) _ _ rfl l1 Tryd.underlying27 rfl (by kernel_rfl)) rfl ⟨rfl, bel⟩
set_option maxRecDepth 100000 in
set_option maxHeartbeats 4000000 in
theorem block_cut (s : St) (b : Int) (w : World) (ha : okA s b = true) (hw : s.w.a = true) (hc : blW s b ≠ w0 s b) :
    Calls Tryd.prog 34 #[.agg #[.int .i64 s.sh, .int .i64 s.fl, .int .i64 s.cl, .bool s.w.a, .bool s.w.p, .int .i64 s.w.n, .bool s.h.a, .bool s.h.p, .int .i64 s.h.n, .int .i64 s.mn, .int .i64 s.mx, .int .i64 s.mt, .bool s.mr.a, .bool s.mr.p, .int .i64 s.mr.n, .int .i64 s.mb, .bool s.ml.a, .bool s.ml.p, .int .i64 s.ml.n, .int .i64 s.bo, .int .i64 s.pa, .int .i64 s.wh, .int .i64 s.al, .int .i64 s.lh, .int .i64 s.ri, .int .i64 s.dn], .int .i64 b] w fun e w' => e = .returned (.agg (#[.int .i64 (lbZ s (mlN s b) (mrN s b) (b - eg s - blW s b)), .int .i64 (blW s b), .int .i64 (b - eg s - blW s b - (lbZ s (mlN s b) (mrN s b) (b - eg s - blW s b)))])) ∧ Below w.heap.size w w' := by
  have l0 : ((w.alloc (.cells (#[.int .i64 s.sh, .int .i64 s.fl, .int .i64 s.cl, .bool s.w.a, .bool s.w.p, .int .i64 s.w.n, .bool s.h.a, .bool s.h.p, .int .i64 s.h.n, .int .i64 s.mn, .int .i64 s.mx, .int .i64 s.mt, .bool s.mr.a, .bool s.mr.p, .int .i64 s.mr.n, .int .i64 s.mb, .bool s.ml.a, .bool s.ml.p, .int .i64 s.ml.n, .int .i64 s.bo, .int .i64 s.pa, .int .i64 s.wh, .int .i64 s.al, .int .i64 s.lh, .int .i64 s.ri, .int .i64 s.dn]) 32)).alloc (.cells (#[.int .i64 0, .int .i64 0, .int .i64 0]) 27)).heap[w.heap.size]? = some (.cells (stCells s) 32 (0, 0)) := heap_in (heap_at _ _ _ rfl)
  have l1 : ((w.alloc (.cells (#[.int .i64 s.sh, .int .i64 s.fl, .int .i64 s.cl, .bool s.w.a, .bool s.w.p, .int .i64 s.w.n, .bool s.h.a, .bool s.h.p, .int .i64 s.h.n, .int .i64 s.mn, .int .i64 s.mx, .int .i64 s.mt, .bool s.mr.a, .bool s.mr.p, .int .i64 s.mr.n, .int .i64 s.mb, .bool s.ml.a, .bool s.ml.p, .int .i64 s.ml.n, .int .i64 s.bo, .int .i64 s.pa, .int .i64 s.wh, .int .i64 s.al, .int .i64 s.lh, .int .i64 s.ri, .int .i64 s.dn]) 32)).alloc (.cells (#[.int .i64 0, .int .i64 0, .int .i64 0]) 27)).heap[w.heap.size + 1]? = some (.cells (#[.int .i64 0, .int .i64 0, .int .i64 0]) 27 (0, 0)) := heap_at _ _ _ (by simp)
  have bel : Below w.heap.size w ((w.alloc (.cells (#[.int .i64 s.sh, .int .i64 s.fl, .int .i64 s.cl, .bool s.w.a, .bool s.w.p, .int .i64 s.w.n, .bool s.h.a, .bool s.h.p, .int .i64 s.h.n, .int .i64 s.mn, .int .i64 s.mx, .int .i64 s.mt, .bool s.mr.a, .bool s.mr.p, .int .i64 s.mr.n, .int .i64 s.mb, .bool s.ml.a, .bool s.ml.p, .int .i64 s.ml.n, .int .i64 s.bo, .int .i64 s.pa, .int .i64 s.wh, .int .i64 s.al, .int .i64 s.lh, .int .i64 s.ri, .int .i64 s.dn]) 32)).alloc (.cells (#[.int .i64 0, .int .i64 0, .int .i64 0]) 27)) := ((Below.refl _ _).alloc (Nat.le_refl _) _).alloc (by simp) _
  obtain ⟨hs, hb0, i1, i2, i3⟩ := okA_yes ha
  obtain ⟨k1, k2⟩ := inB_yes hb0
  obtain ⟨k3, k4⟩ := inB_yes i1
  obtain ⟨k5, k6⟩ := inB_yes i3
  have ED := fun w => edges_any s w hs
  obtain ⟨g1, g2⟩ := eg_bd hs
  obtain ⟨_, _, _, _, n1, n2, _, _⟩ := style_bd hs
  have CU := fun w => cut_any s (mlN s b) (w0 s b) (mrN s b) w
  have CW : 0 ≤ blW s b ∧ blW s b ≤ 10000000 := clZ_bd (by unfold w0; first | (rw [if_pos hw]; omega) | (rw [if_neg (by rw [hw]; decide)]; exact Int.le_trans (by decide) (inB_yes i2).1)) (by unfold w0; first | (rw [if_pos hw]; omega) | (rw [if_neg (by rw [hw]; decide)]; exact Int.le_trans (inB_yes i2).2 (by decide))) n1 n2
  obtain ⟨cw1, cw2⟩ := CW
  rw [show clZ (w0 s b) s.mn s.mx = blW s b from rfl] at CU
  have RM := fun w => room_any s b (mlN s b) (wdN s b) (mrN s b) w hs k1 k2 k3 k4 k5 k6
  have HX : w0 s b = max (b - eg s - mlN s b - mrN s b) 0 := by unfold w0; rw [if_pos hw]
  rw [HX] at CU
  have NE := fun W => neAc_run (mlN s b) (blW s b) (w0 s b) (mrN s b) W
  rw [decide_eq_true hc, HX] at NE
  clear HX hc
  generalize b - eg s - mlN s b - mrN s b = rm at RM CU NE
  have GD := fun (w : World) (x y : Operand) => run_eqGuard_agg (P := Tryd.prog) w .neq 27 x y (#[.int .i64 (mlN s b), .int .i64 (blW s b), .int .i64 (mrN s b)]) (#[.int .i64 (mlN s b), .int .i64 (max rm 0), .int .i64 (mrN s b)]) eqAc_guard
  generalize eg s = eg0 at ED g1 g2 ⊢
  generalize blW s b = cw at CU cw1 cw2 GD NE ⊢
  have LF := fun w => left_any s (mlN s b) (max rm 0) (mrN s b) (b - eg0 - cw) w k5 k6 (by omega) (by omega)
  have LB : -1000000000 ≤ lbZ s (mlN s b) (mrN s b) (b - eg0 - cw) ∧ lbZ s (mlN s b) (mrN s b) (b - eg0 - cw) ≤ 1000000000 := by
    unfold lbZ
    rw [down2]
    split
    · split <;> omega
    · omega
  obtain ⟨lb1, lb2⟩ := LB
  generalize lbZ s (mlN s b) (mrN s b) (b - eg0 - cw) = lb at LF lb1 lb2 ⊢
  have TD := told_any s b ((w.alloc (.cells (#[.int .i64 s.sh, .int .i64 s.fl, .int .i64 s.cl, .bool s.w.a, .bool s.w.p, .int .i64 s.w.n, .bool s.h.a, .bool s.h.p, .int .i64 s.h.n, .int .i64 s.mn, .int .i64 s.mx, .int .i64 s.mt, .bool s.mr.a, .bool s.mr.p, .int .i64 s.mr.n, .int .i64 s.mb, .bool s.ml.a, .bool s.ml.p, .int .i64 s.ml.n, .int .i64 s.bo, .int .i64 s.pa, .int .i64 s.wh, .int .i64 s.al, .int .i64 s.lh, .int .i64 s.ri, .int .i64 s.dn]) 32)).alloc (.cells (#[.int .i64 0, .int .i64 0, .int .i64 0]) 27)) (okA_yes ha).1 (okA_yes ha).2.1
  generalize mlN s b = vl at TD CU GD k3 k4 RM NE LF
  generalize wdN s b = vd at TD GD RM
  generalize mrN s b = vm at TD CU GD k5 k6 RM NE LF
  have c3 : Hid (∀ W : World, W.heap[w.heap.size]? = some (.cells (stCells s) 32 (0, 0)) → W.cell? ⟨w.heap.size, 3, none⟩ = some (.bool true)) := fun W h => (lies_cell h 3).trans (by show some (Value.bool s.w.a) = _; rw [hw])
  clear ha hw hs hb0 i1 i2 i3 n1 n2
  go_enter Tryd.func34, Tryd.ntmps34
  go_wp2_with ((with_reducible show wpList _ _ _ (⟨some 8, Op.load 32 _, _, _, _, _⟩ :: _) _ _); refine wpList_load_row rfl 32 _ rfl (w.heap.size) rfl _ (stCells s) _ _ l0 Tryd.underlying32 rfl (by kernel_rfl) ?_)
  refine TD.mono ?_
  rintro e w1 ⟨rfl, hb⟩
  replace bel := bel.trans (hb.mono bel.size)
  replace l0 := below_lies hb l0 (lies_lt l0)
  replace l1 := below_lies hb l1 (lies_lt l1)
  clear hb
  have z1 : w.heap.size + 1 < w1.heap.size := lies_lt l1
  go_wp2_with (first | ((with_reducible show wpList _ _ _ (⟨none, Op.store 27 (Operand.tmp 5) (Operand.tmp 10), _, _, _, _⟩ :: _) _ _); refine wpList_store_new rfl 27 _ _ rfl rfl (#[.int .i64 vl, .int .i64 vd, .int .i64 vm]) 27 _ _ rfl rfl rfl (by kernel_rfl) rfl (by kernel_rfl) ?_; have l2 := heap_at w1 (.cells (#[.int .i64 vl, .int .i64 vd, .int .i64 vm]) 27) _ rfl; replace l0 := heap_in (o := .cells (#[.int .i64 vl, .int .i64 vd, .int .i64 vm]) 27) l0; replace l1 := heap_in (o := .cells (#[.int .i64 vl, .int .i64 vd, .int .i64 vm]) 27) l1; replace bel := bel.alloc bel.size (.cells (#[.int .i64 vl, .int .i64 vd, .int .i64 vm]) 27); have e3 := c3.out _ l0) | ((with_reducible show wpList _ _ _ (⟨some 14, Op.load 32 _, _, _, _, _⟩ :: _) _ _); refine wpList_load_row rfl 32 _ rfl (w.heap.size) rfl _ (stCells s) _ _ l0 Tryd.underlying32 rfl (by kernel_rfl) ?_) | ((with_reducible show wpList _ _ _ (⟨some 16, Op.load 27 _, _, _, _, _⟩ :: _) _ _); refine wpList_load_row rfl 27 _ rfl (w1.heap.size) rfl _ (#[.int .i64 vl, .int .i64 vd, .int .i64 vm]) _ _ l2 Tryd.underlying27 rfl (by kernel_rfl) ?_))
  refine (RM _).mono ?_
  rintro e w2 ⟨rfl, hb⟩
  replace bel := bel.trans (hb.mono bel.size)
  replace l0 := below_lies hb l0 (lies_lt l0)
  replace l1 := below_lies hb l1 (lies_lt l1)
  replace l2 := below_lies hb l2 (lies_lt l2)
  clear hb
  clear e3
  go_wp2_with (first | ((with_reducible show wpList _ _ _ (⟨none, Op.store 3 (Operand.tmp 19) _, _, _, _, _⟩ :: _) _ _); refine wpList_putA rfl _ _ _ rfl rfl _ 1 3 [.int .i64 (max rm 0)] _ _ rfl rfl l2 rfl (by kernel_rfl) (by kernel_rfl) (by kernel_rfl) ?_; intro w9 p9 l9 n9; replace l2 := l9.trans (congrArg (fun c => some (Obj.cells c 27 (0, 0))) (show _ = (#[.int .i64 vl, .int .i64 (max rm 0), .int .i64 vm] : Array Value) by kernel_rfl)); replace l0 := p9.lies l0 (by omega); replace l1 := p9.lies l1 (by omega); replace bel := p9.below bel (by omega); clear l9 n9 p9) | ((with_reducible show wpList _ _ _ (⟨some 20, Op.load 32 _, _, _, _, _⟩ :: _) _ _); refine wpList_load_row rfl 32 _ rfl (w.heap.size) rfl _ (stCells s) _ _ l0 Tryd.underlying32 rfl (by kernel_rfl) ?_) | ((with_reducible show wpList _ _ _ (⟨some 21, Op.load 27 _, _, _, _, _⟩ :: _) _ _); refine wpList_load_row rfl 27 _ rfl (w1.heap.size) rfl _ (#[.int .i64 vl, .int .i64 (max rm 0), .int .i64 vm]) _ _ l2 Tryd.underlying27 rfl (by kernel_rfl) ?_))
  refine (CU _).mono ?_
  rintro e w3 ⟨rfl, hb⟩
  replace bel := bel.trans (hb.mono bel.size)
  replace l0 := below_lies hb l0 (lies_lt l0)
  replace l1 := below_lies hb l1 (lies_lt l1)
  replace l2 := below_lies hb l2 (lies_lt l2)
  clear hb
  have z3 : w1.heap.size < w3.heap.size := lies_lt l2
  go_wp2_with ((with_reducible show wpList _ _ _ (⟨none, Op.store 27 (Operand.tmp 6) (Operand.tmp 22), _, _, _, _⟩ :: _) _ _); refine wpList_store_new rfl 27 _ _ rfl rfl (#[.int .i64 vl, .int .i64 cw, .int .i64 vm]) 27 _ _ rfl rfl rfl (by kernel_rfl) rfl (by kernel_rfl) ?_; have l3 := heap_at w3 (.cells (#[.int .i64 vl, .int .i64 cw, .int .i64 vm]) 27) _ rfl; replace l0 := heap_in (o := .cells (#[.int .i64 vl, .int .i64 cw, .int .i64 vm]) 27) l0; replace l1 := heap_in (o := .cells (#[.int .i64 vl, .int .i64 cw, .int .i64 vm]) 27) l1; replace l2 := heap_in (o := .cells (#[.int .i64 vl, .int .i64 cw, .int .i64 vm]) 27) l2; replace bel := bel.alloc bel.size (.cells (#[.int .i64 vl, .int .i64 cw, .int .i64 vm]) 27))
  have hS : Sy s w.heap.size w3.heap.size vl cw vm (w3.alloc (.cells (#[.int .i64 vl, .int .i64 cw, .int .i64 vm]) 27)) := ⟨l0, l3⟩
  refine wp_region_held_drew (S := Sy s w.heap.size w3.heap.size vl cw vm) (by kernel_rfl) hS (fun hHeld => ?_)
  refine wpAnyH_take (i := 0) (oi := { dst := some 23, op := Op.move (Operand.tmp 1), type := 3, pos := "l6_width.go:62", after := #[], guard := none }) (v := .int .i64 b) rfl (by kernel_rfl) (by kernel_rfl) (by kernel_rfl) (fun _ _ _ h => h) (Or.inl ⟨by rfl, by intro w hSw; go_simp⟩) hHeld ?_
  simp only [Act.put, List.setIfInBounds_toArray, List.set_cons_zero, List.set_cons_succ]
  refine wpAnyH_take (i := 1) (oi := { dst := some 24, op := Op.load 32 (Operand.tmp 2), type := 32, pos := "l6_width.go:62", after := #[], guard := none }) (v := .agg ((stCells s).toList).toArray) rfl (by kernel_rfl) (by kernel_rfl) (by kernel_rfl) (fun _ _ _ h => h) (yieldsIf_load_mid (by rfl) 32 _ rfl (w.heap.size) 0 rfl ((stCells s).toList) _ (fun wz hw => range_lies hw.1) Tryd.underlying32 rfl (by kernel_rfl)) hHeld ?_
  simp only [Act.put, List.setIfInBounds_toArray, List.set_cons_zero, List.set_cons_succ]
  refine wpAnyH_take (i := 4) (oi := { dst := some 27, op := Op.fieldAddr 27 (Operand.tmp 6) 1, type := 0, pos := "l6_width.go:62", after := #[], guard := none }) (v := .pointer (some ⟨w3.heap.size, 1, none⟩)) rfl (by kernel_rfl) (by kernel_rfl) (by kernel_rfl) (fun _ _ _ h => h) (Or.inl ⟨by rfl, by intro w hSw; go_simp⟩) hHeld ?_
  simp only [Act.put, List.setIfInBounds_toArray, List.set_cons_zero, List.set_cons_succ]
  refine wpAnyH_take (i := 5) (oi := { dst := some 28, op := Op.load 3 (Operand.tmp 27), type := 3, pos := "l6_width.go:62", after := #[⟨4, Ground.data⟩], guard := none }) (v := .int .i64 cw) rfl (by kernel_rfl) (by kernel_rfl) (by kernel_rfl) (fun _ _ _ h => h) (Or.inl ⟨by rfl, by intro wz hSw; have hq : wz.cell? ⟨w3.heap.size, 1, none⟩ = some (.int .i64 cw) := (lies_cell hSw.2 1).trans rfl; clear hSw; go_simp⟩) hHeld ?_
  simp only [Act.put, List.setIfInBounds_toArray, List.set_cons_zero, List.set_cons_succ]
  refine wpAnyH_ready (rs := [2]) (by kernel_rfl) (by simp) ?_
  refine AllReadyH.cons (o := { dst := some 25, op := Op.call { callee := Callee.value (Operand.func 72), args := #[Operand.tmp 24], argTypes := #[32] }, type := 3, pos := "l6_width.go:62", after := #[⟨1, Ground.data⟩], guard := none }) rfl (fun K hK => ?_) AllReadyH.nil
  go_simp
  refine (ED _).mono ?_
  rintro e w4 ⟨rfl, hb⟩
  have hx2 : Sy s w.heap.size w3.heap.size vl cw vm w4 := ⟨below_lies hb hHeld.1 (lies_lt hHeld.1), below_lies hb hHeld.2 (lies_lt hHeld.2)⟩
  go_wp2_with fail
  refine hK.out _ _ hx2 (fun hHeld2 => ?_)
  clear hK K
  try simp only [Act.put, List.setIfInBounds_toArray, List.set_cons_zero, List.set_cons_succ]
  refine wpAnyH_take (i := 3) (oi := { dst := some 26, op := Op.binOp BinOp.sub 3 (Operand.tmp 23) (Operand.tmp 25) 3, type := 3, pos := "l6_width.go:62", after := #[⟨0, Ground.data⟩, ⟨2, Ground.data⟩], guard := none }) (v := .int .i64 (b - eg0)) rfl (by kernel_rfl) (by kernel_rfl) (by kernel_rfl) (fun _ _ _ h => h) (Or.inl ⟨by rfl, by intro wz hSw; go_simp; exact wrap6 (by omega) (by omega)⟩) hHeld2 ?_
  simp only [Act.put, List.setIfInBounds_toArray, List.set_cons_zero, List.set_cons_succ]
  refine wpAnyH_take (i := 6) (oi := { dst := some 29, op := Op.binOp BinOp.sub 3 (Operand.tmp 26) (Operand.tmp 28) 3, type := 3, pos := "l6_width.go:62", after := #[⟨3, Ground.data⟩, ⟨5, Ground.data⟩], guard := none }) (v := .int .i64 ((b - eg0) - cw)) rfl (by kernel_rfl) (by kernel_rfl) (by kernel_rfl) (fun _ _ _ h => h) (Or.inl ⟨by rfl, by intro wz hSw; go_simp; exact wrap6 (by omega) (by omega)⟩) hHeld2 ?_
  simp only [Act.put, List.setIfInBounds_toArray, List.set_cons_zero, List.set_cons_succ]
  refine wpAnyH_take (i := 7) (oi := { dst := some 7, op := Op.assign (Operand.tmp 29), type := 3, pos := "l6_width.go:62", after := #[⟨6, Ground.data⟩, ⟨2, Ground.chain⟩, ⟨0, Ground.phase⟩, ⟨1, Ground.phase⟩, ⟨2, Ground.phase⟩, ⟨3, Ground.phase⟩, ⟨4, Ground.phase⟩, ⟨5, Ground.phase⟩, ⟨6, Ground.phase⟩], guard := none }) (v := .int .i64 ((b - eg0) - cw)) rfl (by kernel_rfl) (by kernel_rfl) (by kernel_rfl) (fun _ _ _ h => h) (Or.inl ⟨by rfl, by intro w hSw; go_simp⟩) hHeld2 ?_
  simp only [Act.put, List.setIfInBounds_toArray, List.set_cons_zero, List.set_cons_succ]
  refine wpAnyH_done (by kernel_rfl) ?_ _
  replace bel : Below w.heap.size w w4 := bel.trans (Below.mono (B := (w3.alloc (.cells (#[.int .i64 vl, .int .i64 cw, .int .i64 vm]) 27)).heap.size) ⟨hb.os, hb.tape, hb.output, hb.size, hb.block⟩ bel.size)
  replace l0 := below_lies (B := (w3.alloc (.cells (#[.int .i64 vl, .int .i64 cw, .int .i64 vm]) 27)).heap.size) (w := (w3.alloc (.cells (#[.int .i64 vl, .int .i64 cw, .int .i64 vm]) 27))) (w' := w4) ⟨hb.os, hb.tape, hb.output, hb.size, hb.block⟩ l0 (lies_lt l0)
  replace l1 := below_lies (B := (w3.alloc (.cells (#[.int .i64 vl, .int .i64 cw, .int .i64 vm]) 27)).heap.size) (w := (w3.alloc (.cells (#[.int .i64 vl, .int .i64 cw, .int .i64 vm]) 27))) (w' := w4) ⟨hb.os, hb.tape, hb.output, hb.size, hb.block⟩ l1 (lies_lt l1)
  replace l2 := below_lies (B := (w3.alloc (.cells (#[.int .i64 vl, .int .i64 cw, .int .i64 vm]) 27)).heap.size) (w := (w3.alloc (.cells (#[.int .i64 vl, .int .i64 cw, .int .i64 vm]) 27))) (w' := w4) ⟨hb.os, hb.tape, hb.output, hb.size, hb.block⟩ l2 (lies_lt l2)
  replace l3 := below_lies (B := (w3.alloc (.cells (#[.int .i64 vl, .int .i64 cw, .int .i64 vm]) 27)).heap.size) (w := (w3.alloc (.cells (#[.int .i64 vl, .int .i64 cw, .int .i64 vm]) 27))) (w' := w4) ⟨hb.os, hb.tape, hb.output, hb.size, hb.block⟩ l3 (lies_lt l3)
  clear hb hHeld hHeld2 hx2 hS
  have e3 := c3.out _ l0
  have d0 : w4.cell? ⟨w3.heap.size, 0, none⟩ = some (.int .i64 vl) := (lies_cell l3 0).trans rfl
  have d1 : w4.cell? ⟨w3.heap.size, 1, none⟩ = some (.int .i64 cw) := (lies_cell l3 1).trans rfl
  have d2 : w4.cell? ⟨w3.heap.size, 2, none⟩ = some (.int .i64 vm) := (lies_cell l3 2).trans rfl
  have k0 : w4.cell? ⟨w1.heap.size, 0, none⟩ = some (.int .i64 vl) := (lies_cell l2 0).trans rfl
  have k1 : w4.cell? ⟨w1.heap.size, 1, none⟩ = some (.int .i64 (max rm 0)) := (lies_cell l2 1).trans rfl
  have k2 : w4.cell? ⟨w1.heap.size, 2, none⟩ = some (.int .i64 vm) := (lies_cell l2 2).trans rfl
  go_wp2_with (first | ((with_reducible show wpList _ _ _ (⟨some 39, Op.load 32 _, _, _, _, _⟩ :: _) _ _); refine wpList_load_row rfl 32 _ rfl (w.heap.size) rfl _ (stCells s) _ _ l0 Tryd.underlying32 rfl (by kernel_rfl) ?_) | ((with_reducible show wpList _ _ _ (⟨some 40, Op.load 27 _, _, _, _, _⟩ :: _) _ _); refine wpList_load_row rfl 27 _ rfl (w1.heap.size) rfl _ (#[.int .i64 vl, .int .i64 (max rm 0), .int .i64 vm]) _ _ l2 Tryd.underlying27 rfl (by kernel_rfl) ?_))
  refine (LF _).mono ?_
  rintro e w5 ⟨rfl, hb⟩
  replace bel := bel.trans (hb.mono bel.size)
  replace l0 := below_lies hb l0 (lies_lt l0)
  replace l1 := below_lies hb l1 (lies_lt l1)
  replace l2 := below_lies hb l2 (lies_lt l2)
  replace l3 := below_lies hb l3 (lies_lt l3)
  clear hb
  clear e3 d0 d1 d2 k0 k1 k2
  go_wp2_with (first | ((with_reducible show wpList _ _ _ (⟨none, Op.store 3 (Operand.tmp 43) _, _, _, _, _⟩ :: _) _ _); refine wpList_putA rfl _ _ _ rfl rfl _ 0 3 [.int .i64 lb] _ _ rfl rfl l3 rfl (by kernel_rfl) (by kernel_rfl) (by kernel_rfl) ?_; intro w9 p9 l9 n9; replace l3 := l9.trans (congrArg (fun c => some (Obj.cells c 27 (0, 0))) (show _ = (#[.int .i64 lb, .int .i64 cw, .int .i64 vm] : Array Value) by kernel_rfl)); replace l0 := p9.lies l0 (by omega); replace l1 := p9.lies l1 (by omega); replace l2 := p9.lies l2 (by omega); replace bel := p9.below bel (by omega); clear l9 n9 p9; have f0 : w9.cell? ⟨w3.heap.size, 0, none⟩ = some (.int .i64 lb) := (lies_cell l3 0).trans rfl) | ((with_reducible show wpList _ _ _ (⟨none, Op.store 3 (Operand.tmp 48) _, _, _, _, _⟩ :: _) _ _); refine wpList_putA rfl _ _ _ rfl rfl _ 2 3 [.int .i64 (b - eg0 - cw - lb)] _ _ rfl rfl l3 rfl (by kernel_rfl) (by kernel_rfl) (by kernel_rfl) ?_; intro w9 p9 l9 n9; replace l3 := l9.trans (congrArg (fun c => some (Obj.cells c 27 (0, 0))) (show _ = (#[.int .i64 lb, .int .i64 cw, .int .i64 (b - eg0 - cw - lb)] : Array Value) by kernel_rfl)); replace l0 := p9.lies l0 (by omega); replace l1 := p9.lies l1 (by omega); replace l2 := p9.lies l2 (by omega); replace bel := p9.below bel (by omega); clear l9 n9 p9) | ((with_reducible show wpList _ _ _ (⟨some 49, Op.load 27 _, _, _, _, _⟩ :: _) _ _); refine wpList_load_row rfl 27 _ rfl (w3.heap.size) rfl _ (#[.int .i64 lb, .int .i64 cw, .int .i64 (b - eg0 - cw - lb)]) _ _ l3 Tryd.underlying27 rfl (by kernel_rfl) ?_) | ((with_reducible show wpList _ _ _ (⟨none, Op.store 27 (Operand.tmp 4) (Operand.tmp 49), _, _, _, _⟩ :: _) _ _); refine wpList_putA rfl _ _ _ rfl rfl _ 0 3 [.int .i64 lb, .int .i64 cw, .int .i64 (b - eg0 - cw - lb)] _ _ rfl rfl l1 rfl (by kernel_rfl) (by kernel_rfl) (by kernel_rfl) ?_; intro w9 p9 l9 n9; replace l1 := l9.trans (congrArg (fun c => some (Obj.cells c 27 (0, 0))) (show _ = (#[.int .i64 lb, .int .i64 cw, .int .i64 (b - eg0 - cw - lb)] : Array Value) by kernel_rfl)); replace bel := p9.below bel (by omega); clear l9 n9 p9))
  exact bodyPost_ret (v := .agg (#[.int .i64 lb, .int .i64 cw, .int .i64 (b - eg0 - cw - lb)])) (results_cell_row Tryd.results34 _ _ _ _ (#[.int .i64 lb, .int .i64 cw, .int .i64 (b - eg0 - cw - lb)]) _ _ rfl l1 Tryd.underlying27 rfl (by kernel_rfl)) rfl ⟨rfl, bel⟩
set_option maxRecDepth 100000 in
set_option maxHeartbeats 4000000 in
theorem block_auto (s : St) (b : Int) (w : World) (ha : okA s b = true) (hw : s.w.a = true) (hc : blW s b = w0 s b) :
    Calls Tryd.prog 34 #[.agg #[.int .i64 s.sh, .int .i64 s.fl, .int .i64 s.cl, .bool s.w.a, .bool s.w.p, .int .i64 s.w.n, .bool s.h.a, .bool s.h.p, .int .i64 s.h.n, .int .i64 s.mn, .int .i64 s.mx, .int .i64 s.mt, .bool s.mr.a, .bool s.mr.p, .int .i64 s.mr.n, .int .i64 s.mb, .bool s.ml.a, .bool s.ml.p, .int .i64 s.ml.n, .int .i64 s.bo, .int .i64 s.pa, .int .i64 s.wh, .int .i64 s.al, .int .i64 s.lh, .int .i64 s.ri, .int .i64 s.dn], .int .i64 b] w fun e w' => e = .returned (.agg (#[.int .i64 (mlN s b), .int .i64 (blW s b), .int .i64 (b - eg s - blW s b - (mlN s b))])) ∧ Below w.heap.size w w' := by
  have l0 : ((w.alloc (.cells (#[.int .i64 s.sh, .int .i64 s.fl, .int .i64 s.cl, .bool s.w.a, .bool s.w.p, .int .i64 s.w.n, .bool s.h.a, .bool s.h.p, .int .i64 s.h.n, .int .i64 s.mn, .int .i64 s.mx, .int .i64 s.mt, .bool s.mr.a, .bool s.mr.p, .int .i64 s.mr.n, .int .i64 s.mb, .bool s.ml.a, .bool s.ml.p, .int .i64 s.ml.n, .int .i64 s.bo, .int .i64 s.pa, .int .i64 s.wh, .int .i64 s.al, .int .i64 s.lh, .int .i64 s.ri, .int .i64 s.dn]) 32)).alloc (.cells (#[.int .i64 0, .int .i64 0, .int .i64 0]) 27)).heap[w.heap.size]? = some (.cells (stCells s) 32 (0, 0)) := heap_in (heap_at _ _ _ rfl)
  have l1 : ((w.alloc (.cells (#[.int .i64 s.sh, .int .i64 s.fl, .int .i64 s.cl, .bool s.w.a, .bool s.w.p, .int .i64 s.w.n, .bool s.h.a, .bool s.h.p, .int .i64 s.h.n, .int .i64 s.mn, .int .i64 s.mx, .int .i64 s.mt, .bool s.mr.a, .bool s.mr.p, .int .i64 s.mr.n, .int .i64 s.mb, .bool s.ml.a, .bool s.ml.p, .int .i64 s.ml.n, .int .i64 s.bo, .int .i64 s.pa, .int .i64 s.wh, .int .i64 s.al, .int .i64 s.lh, .int .i64 s.ri, .int .i64 s.dn]) 32)).alloc (.cells (#[.int .i64 0, .int .i64 0, .int .i64 0]) 27)).heap[w.heap.size + 1]? = some (.cells (#[.int .i64 0, .int .i64 0, .int .i64 0]) 27 (0, 0)) := heap_at _ _ _ (by simp)
  have bel : Below w.heap.size w ((w.alloc (.cells (#[.int .i64 s.sh, .int .i64 s.fl, .int .i64 s.cl, .bool s.w.a, .bool s.w.p, .int .i64 s.w.n, .bool s.h.a, .bool s.h.p, .int .i64 s.h.n, .int .i64 s.mn, .int .i64 s.mx, .int .i64 s.mt, .bool s.mr.a, .bool s.mr.p, .int .i64 s.mr.n, .int .i64 s.mb, .bool s.ml.a, .bool s.ml.p, .int .i64 s.ml.n, .int .i64 s.bo, .int .i64 s.pa, .int .i64 s.wh, .int .i64 s.al, .int .i64 s.lh, .int .i64 s.ri, .int .i64 s.dn]) 32)).alloc (.cells (#[.int .i64 0, .int .i64 0, .int .i64 0]) 27)) := ((Below.refl _ _).alloc (Nat.le_refl _) _).alloc (by simp) _
  obtain ⟨hs, hb0, i1, i2, i3⟩ := okA_yes ha
  obtain ⟨k1, k2⟩ := inB_yes hb0
  obtain ⟨k3, k4⟩ := inB_yes i1
  obtain ⟨k5, k6⟩ := inB_yes i3
  have ED := fun w => edges_any s w hs
  obtain ⟨g1, g2⟩ := eg_bd hs
  obtain ⟨_, _, _, _, n1, n2, _, _⟩ := style_bd hs
  have CU := fun w => cut_any s (mlN s b) (w0 s b) (mrN s b) w
  have CW : 0 ≤ blW s b ∧ blW s b ≤ 10000000 := clZ_bd (by unfold w0; first | (rw [if_pos hw]; omega) | (rw [if_neg (by rw [hw]; decide)]; exact Int.le_trans (by decide) (inB_yes i2).1)) (by unfold w0; first | (rw [if_pos hw]; omega) | (rw [if_neg (by rw [hw]; decide)]; exact Int.le_trans (inB_yes i2).2 (by decide))) n1 n2
  obtain ⟨cw1, cw2⟩ := CW
  rw [show clZ (w0 s b) s.mn s.mx = blW s b from rfl] at CU
  have RM := fun w => room_any s b (mlN s b) (wdN s b) (mrN s b) w hs k1 k2 k3 k4 k5 k6
  have HX : w0 s b = max (b - eg s - mlN s b - mrN s b) 0 := by unfold w0; rw [if_pos hw]
  rw [HX] at CU
  have NE := fun W => neAc_run (mlN s b) (blW s b) (w0 s b) (mrN s b) W
  rw [decide_eq_false (fun h => h hc), HX] at NE
  clear HX hc
  generalize b - eg s - mlN s b - mrN s b = rm at RM CU NE
  have GD := fun (w : World) (x y : Operand) => run_eqGuard_agg (P := Tryd.prog) w .neq 27 x y (#[.int .i64 (mlN s b), .int .i64 (blW s b), .int .i64 (mrN s b)]) (#[.int .i64 (mlN s b), .int .i64 (max rm 0), .int .i64 (mrN s b)]) eqAc_guard
  generalize eg s = eg0 at ED g1 g2 ⊢
  generalize blW s b = cw at CU cw1 cw2 GD NE ⊢
  have TD := told_any s b ((w.alloc (.cells (#[.int .i64 s.sh, .int .i64 s.fl, .int .i64 s.cl, .bool s.w.a, .bool s.w.p, .int .i64 s.w.n, .bool s.h.a, .bool s.h.p, .int .i64 s.h.n, .int .i64 s.mn, .int .i64 s.mx, .int .i64 s.mt, .bool s.mr.a, .bool s.mr.p, .int .i64 s.mr.n, .int .i64 s.mb, .bool s.ml.a, .bool s.ml.p, .int .i64 s.ml.n, .int .i64 s.bo, .int .i64 s.pa, .int .i64 s.wh, .int .i64 s.al, .int .i64 s.lh, .int .i64 s.ri, .int .i64 s.dn]) 32)).alloc (.cells (#[.int .i64 0, .int .i64 0, .int .i64 0]) 27)) (okA_yes ha).1 (okA_yes ha).2.1
  generalize mlN s b = vl at TD CU GD k3 k4 RM NE ⊢
  generalize wdN s b = vd at TD GD RM
  generalize mrN s b = vm at TD CU GD k5 k6 RM NE
  have c3 : Hid (∀ W : World, W.heap[w.heap.size]? = some (.cells (stCells s) 32 (0, 0)) → W.cell? ⟨w.heap.size, 3, none⟩ = some (.bool true)) := fun W h => (lies_cell h 3).trans (by show some (Value.bool s.w.a) = _; rw [hw])
  clear ha hw hs hb0 i1 i2 i3 n1 n2
  go_enter Tryd.func34, Tryd.ntmps34
  go_wp2_with ((with_reducible show wpList _ _ _ (⟨some 8, Op.load 32 _, _, _, _, _⟩ :: _) _ _); refine wpList_load_row rfl 32 _ rfl (w.heap.size) rfl _ (stCells s) _ _ l0 Tryd.underlying32 rfl (by kernel_rfl) ?_)
  refine TD.mono ?_
  rintro e w1 ⟨rfl, hb⟩
  replace bel := bel.trans (hb.mono bel.size)
  replace l0 := below_lies hb l0 (lies_lt l0)
  replace l1 := below_lies hb l1 (lies_lt l1)
  clear hb
  have z1 : w.heap.size + 1 < w1.heap.size := lies_lt l1
  go_wp2_with (first | ((with_reducible show wpList _ _ _ (⟨none, Op.store 27 (Operand.tmp 5) (Operand.tmp 10), _, _, _, _⟩ :: _) _ _); refine wpList_store_new rfl 27 _ _ rfl rfl (#[.int .i64 vl, .int .i64 vd, .int .i64 vm]) 27 _ _ rfl rfl rfl (by kernel_rfl) rfl (by kernel_rfl) ?_; have l2 := heap_at w1 (.cells (#[.int .i64 vl, .int .i64 vd, .int .i64 vm]) 27) _ rfl; replace l0 := heap_in (o := .cells (#[.int .i64 vl, .int .i64 vd, .int .i64 vm]) 27) l0; replace l1 := heap_in (o := .cells (#[.int .i64 vl, .int .i64 vd, .int .i64 vm]) 27) l1; replace bel := bel.alloc bel.size (.cells (#[.int .i64 vl, .int .i64 vd, .int .i64 vm]) 27); have e3 := c3.out _ l0) | ((with_reducible show wpList _ _ _ (⟨some 14, Op.load 32 _, _, _, _, _⟩ :: _) _ _); refine wpList_load_row rfl 32 _ rfl (w.heap.size) rfl _ (stCells s) _ _ l0 Tryd.underlying32 rfl (by kernel_rfl) ?_) | ((with_reducible show wpList _ _ _ (⟨some 16, Op.load 27 _, _, _, _, _⟩ :: _) _ _); refine wpList_load_row rfl 27 _ rfl (w1.heap.size) rfl _ (#[.int .i64 vl, .int .i64 vd, .int .i64 vm]) _ _ l2 Tryd.underlying27 rfl (by kernel_rfl) ?_))
  refine (RM _).mono ?_
  rintro e w2 ⟨rfl, hb⟩
  replace bel := bel.trans (hb.mono bel.size)
  replace l0 := below_lies hb l0 (lies_lt l0)
  replace l1 := below_lies hb l1 (lies_lt l1)
  replace l2 := below_lies hb l2 (lies_lt l2)
  clear hb
  clear e3
  go_wp2_with (first | ((with_reducible show wpList _ _ _ (⟨none, Op.store 3 (Operand.tmp 19) _, _, _, _, _⟩ :: _) _ _); refine wpList_putA rfl _ _ _ rfl rfl _ 1 3 [.int .i64 (max rm 0)] _ _ rfl rfl l2 rfl (by kernel_rfl) (by kernel_rfl) (by kernel_rfl) ?_; intro w9 p9 l9 n9; replace l2 := l9.trans (congrArg (fun c => some (Obj.cells c 27 (0, 0))) (show _ = (#[.int .i64 vl, .int .i64 (max rm 0), .int .i64 vm] : Array Value) by kernel_rfl)); replace l0 := p9.lies l0 (by omega); replace l1 := p9.lies l1 (by omega); replace bel := p9.below bel (by omega); clear l9 n9 p9) | ((with_reducible show wpList _ _ _ (⟨some 20, Op.load 32 _, _, _, _, _⟩ :: _) _ _); refine wpList_load_row rfl 32 _ rfl (w.heap.size) rfl _ (stCells s) _ _ l0 Tryd.underlying32 rfl (by kernel_rfl) ?_) | ((with_reducible show wpList _ _ _ (⟨some 21, Op.load 27 _, _, _, _, _⟩ :: _) _ _); refine wpList_load_row rfl 27 _ rfl (w1.heap.size) rfl _ (#[.int .i64 vl, .int .i64 (max rm 0), .int .i64 vm]) _ _ l2 Tryd.underlying27 rfl (by kernel_rfl) ?_))
  refine (CU _).mono ?_
  rintro e w3 ⟨rfl, hb⟩
  replace bel := bel.trans (hb.mono bel.size)
  replace l0 := below_lies hb l0 (lies_lt l0)
  replace l1 := below_lies hb l1 (lies_lt l1)
  replace l2 := below_lies hb l2 (lies_lt l2)
  clear hb
  have z3 : w1.heap.size < w3.heap.size := lies_lt l2
  go_wp2_with ((with_reducible show wpList _ _ _ (⟨none, Op.store 27 (Operand.tmp 6) (Operand.tmp 22), _, _, _, _⟩ :: _) _ _); refine wpList_store_new rfl 27 _ _ rfl rfl (#[.int .i64 vl, .int .i64 cw, .int .i64 vm]) 27 _ _ rfl rfl rfl (by kernel_rfl) rfl (by kernel_rfl) ?_; have l3 := heap_at w3 (.cells (#[.int .i64 vl, .int .i64 cw, .int .i64 vm]) 27) _ rfl; replace l0 := heap_in (o := .cells (#[.int .i64 vl, .int .i64 cw, .int .i64 vm]) 27) l0; replace l1 := heap_in (o := .cells (#[.int .i64 vl, .int .i64 cw, .int .i64 vm]) 27) l1; replace l2 := heap_in (o := .cells (#[.int .i64 vl, .int .i64 cw, .int .i64 vm]) 27) l2; replace bel := bel.alloc bel.size (.cells (#[.int .i64 vl, .int .i64 cw, .int .i64 vm]) 27))
  have hS : Sy s w.heap.size w3.heap.size vl cw vm (w3.alloc (.cells (#[.int .i64 vl, .int .i64 cw, .int .i64 vm]) 27)) := ⟨l0, l3⟩
  refine wp_region_held_drew (S := Sy s w.heap.size w3.heap.size vl cw vm) (by kernel_rfl) hS (fun hHeld => ?_)
  refine wpAnyH_take (i := 0) (oi := { dst := some 23, op := Op.move (Operand.tmp 1), type := 3, pos := "l6_width.go:62", after := #[], guard := none }) (v := .int .i64 b) rfl (by kernel_rfl) (by kernel_rfl) (by kernel_rfl) (fun _ _ _ h => h) (Or.inl ⟨by rfl, by intro w hSw; go_simp⟩) hHeld ?_
  simp only [Act.put, List.setIfInBounds_toArray, List.set_cons_zero, List.set_cons_succ]
  refine wpAnyH_take (i := 1) (oi := { dst := some 24, op := Op.load 32 (Operand.tmp 2), type := 32, pos := "l6_width.go:62", after := #[], guard := none }) (v := .agg ((stCells s).toList).toArray) rfl (by kernel_rfl) (by kernel_rfl) (by kernel_rfl) (fun _ _ _ h => h) (yieldsIf_load_mid (by rfl) 32 _ rfl (w.heap.size) 0 rfl ((stCells s).toList) _ (fun wz hw => range_lies hw.1) Tryd.underlying32 rfl (by kernel_rfl)) hHeld ?_
  simp only [Act.put, List.setIfInBounds_toArray, List.set_cons_zero, List.set_cons_succ]
  refine wpAnyH_take (i := 4) (oi := { dst := some 27, op := Op.fieldAddr 27 (Operand.tmp 6) 1, type := 0, pos := "l6_width.go:62", after := #[], guard := none }) (v := .pointer (some ⟨w3.heap.size, 1, none⟩)) rfl (by kernel_rfl) (by kernel_rfl) (by kernel_rfl) (fun _ _ _ h => h) (Or.inl ⟨by rfl, by intro w hSw; go_simp⟩) hHeld ?_
  simp only [Act.put, List.setIfInBounds_toArray, List.set_cons_zero, List.set_cons_succ]
  refine wpAnyH_take (i := 5) (oi := { dst := some 28, op := Op.load 3 (Operand.tmp 27), type := 3, pos := "l6_width.go:62", after := #[⟨4, Ground.data⟩], guard := none }) (v := .int .i64 cw) rfl (by kernel_rfl) (by kernel_rfl) (by kernel_rfl) (fun _ _ _ h => h) (Or.inl ⟨by rfl, by intro wz hSw; have hq : wz.cell? ⟨w3.heap.size, 1, none⟩ = some (.int .i64 cw) := (lies_cell hSw.2 1).trans rfl; clear hSw; go_simp⟩) hHeld ?_
  simp only [Act.put, List.setIfInBounds_toArray, List.set_cons_zero, List.set_cons_succ]
  refine wpAnyH_ready (rs := [2]) (by kernel_rfl) (by simp) ?_
  refine AllReadyH.cons (o := { dst := some 25, op := Op.call { callee := Callee.value (Operand.func 72), args := #[Operand.tmp 24], argTypes := #[32] }, type := 3, pos := "l6_width.go:62", after := #[⟨1, Ground.data⟩], guard := none }) rfl (fun K hK => ?_) AllReadyH.nil
  go_simp
  refine (ED _).mono ?_
  rintro e w4 ⟨rfl, hb⟩
  have hx2 : Sy s w.heap.size w3.heap.size vl cw vm w4 := ⟨below_lies hb hHeld.1 (lies_lt hHeld.1), below_lies hb hHeld.2 (lies_lt hHeld.2)⟩
  go_wp2_with fail
  refine hK.out _ _ hx2 (fun hHeld2 => ?_)
  clear hK K
  try simp only [Act.put, List.setIfInBounds_toArray, List.set_cons_zero, List.set_cons_succ]
  refine wpAnyH_take (i := 3) (oi := { dst := some 26, op := Op.binOp BinOp.sub 3 (Operand.tmp 23) (Operand.tmp 25) 3, type := 3, pos := "l6_width.go:62", after := #[⟨0, Ground.data⟩, ⟨2, Ground.data⟩], guard := none }) (v := .int .i64 (b - eg0)) rfl (by kernel_rfl) (by kernel_rfl) (by kernel_rfl) (fun _ _ _ h => h) (Or.inl ⟨by rfl, by intro wz hSw; go_simp; exact wrap6 (by omega) (by omega)⟩) hHeld2 ?_
  simp only [Act.put, List.setIfInBounds_toArray, List.set_cons_zero, List.set_cons_succ]
  refine wpAnyH_take (i := 6) (oi := { dst := some 29, op := Op.binOp BinOp.sub 3 (Operand.tmp 26) (Operand.tmp 28) 3, type := 3, pos := "l6_width.go:62", after := #[⟨3, Ground.data⟩, ⟨5, Ground.data⟩], guard := none }) (v := .int .i64 ((b - eg0) - cw)) rfl (by kernel_rfl) (by kernel_rfl) (by kernel_rfl) (fun _ _ _ h => h) (Or.inl ⟨by rfl, by intro wz hSw; go_simp; exact wrap6 (by omega) (by omega)⟩) hHeld2 ?_
  simp only [Act.put, List.setIfInBounds_toArray, List.set_cons_zero, List.set_cons_succ]
  refine wpAnyH_take (i := 7) (oi := { dst := some 7, op := Op.assign (Operand.tmp 29), type := 3, pos := "l6_width.go:62", after := #[⟨6, Ground.data⟩, ⟨2, Ground.chain⟩, ⟨0, Ground.phase⟩, ⟨1, Ground.phase⟩, ⟨2, Ground.phase⟩, ⟨3, Ground.phase⟩, ⟨4, Ground.phase⟩, ⟨5, Ground.phase⟩, ⟨6, Ground.phase⟩], guard := none }) (v := .int .i64 ((b - eg0) - cw)) rfl (by kernel_rfl) (by kernel_rfl) (by kernel_rfl) (fun _ _ _ h => h) (Or.inl ⟨by rfl, by intro w hSw; go_simp⟩) hHeld2 ?_
  simp only [Act.put, List.setIfInBounds_toArray, List.set_cons_zero, List.set_cons_succ]
  refine wpAnyH_done (by kernel_rfl) ?_ _
  replace bel : Below w.heap.size w w4 := bel.trans (Below.mono (B := (w3.alloc (.cells (#[.int .i64 vl, .int .i64 cw, .int .i64 vm]) 27)).heap.size) ⟨hb.os, hb.tape, hb.output, hb.size, hb.block⟩ bel.size)
  replace l0 := below_lies (B := (w3.alloc (.cells (#[.int .i64 vl, .int .i64 cw, .int .i64 vm]) 27)).heap.size) (w := (w3.alloc (.cells (#[.int .i64 vl, .int .i64 cw, .int .i64 vm]) 27))) (w' := w4) ⟨hb.os, hb.tape, hb.output, hb.size, hb.block⟩ l0 (lies_lt l0)
  replace l1 := below_lies (B := (w3.alloc (.cells (#[.int .i64 vl, .int .i64 cw, .int .i64 vm]) 27)).heap.size) (w := (w3.alloc (.cells (#[.int .i64 vl, .int .i64 cw, .int .i64 vm]) 27))) (w' := w4) ⟨hb.os, hb.tape, hb.output, hb.size, hb.block⟩ l1 (lies_lt l1)
  replace l2 := below_lies (B := (w3.alloc (.cells (#[.int .i64 vl, .int .i64 cw, .int .i64 vm]) 27)).heap.size) (w := (w3.alloc (.cells (#[.int .i64 vl, .int .i64 cw, .int .i64 vm]) 27))) (w' := w4) ⟨hb.os, hb.tape, hb.output, hb.size, hb.block⟩ l2 (lies_lt l2)
  replace l3 := below_lies (B := (w3.alloc (.cells (#[.int .i64 vl, .int .i64 cw, .int .i64 vm]) 27)).heap.size) (w := (w3.alloc (.cells (#[.int .i64 vl, .int .i64 cw, .int .i64 vm]) 27))) (w' := w4) ⟨hb.os, hb.tape, hb.output, hb.size, hb.block⟩ l3 (lies_lt l3)
  clear hb hHeld hHeld2 hx2 hS
  have e3 := c3.out _ l0
  have d0 : w4.cell? ⟨w3.heap.size, 0, none⟩ = some (.int .i64 vl) := (lies_cell l3 0).trans rfl
  have d1 : w4.cell? ⟨w3.heap.size, 1, none⟩ = some (.int .i64 cw) := (lies_cell l3 1).trans rfl
  have d2 : w4.cell? ⟨w3.heap.size, 2, none⟩ = some (.int .i64 vm) := (lies_cell l3 2).trans rfl
  have k0 : w4.cell? ⟨w1.heap.size, 0, none⟩ = some (.int .i64 vl) := (lies_cell l2 0).trans rfl
  have k1 : w4.cell? ⟨w1.heap.size, 1, none⟩ = some (.int .i64 (max rm 0)) := (lies_cell l2 1).trans rfl
  have k2 : w4.cell? ⟨w1.heap.size, 2, none⟩ = some (.int .i64 vm) := (lies_cell l2 2).trans rfl
  go_wp2_with (first | ((with_reducible show wpList _ _ _ (⟨none, Op.store 3 (Operand.tmp 48) _, _, _, _, _⟩ :: _) _ _); refine wpList_putA rfl _ _ _ rfl rfl _ 2 3 [.int .i64 (b - eg0 - cw - vl)] _ _ rfl rfl l3 rfl (by kernel_rfl) (by kernel_rfl) (by kernel_rfl) ?_; intro w9 p9 l9 n9; replace l3 := l9.trans (congrArg (fun c => some (Obj.cells c 27 (0, 0))) (show _ = (#[.int .i64 vl, .int .i64 cw, .int .i64 (b - eg0 - cw - vl)] : Array Value) by kernel_rfl)); replace l0 := p9.lies l0 (by omega); replace l1 := p9.lies l1 (by omega); replace l2 := p9.lies l2 (by omega); replace bel := p9.below bel (by omega); clear l9 n9 p9) | ((with_reducible show wpList _ _ _ (⟨some 49, Op.load 27 _, _, _, _, _⟩ :: _) _ _); refine wpList_load_row rfl 27 _ rfl (w3.heap.size) rfl _ (#[.int .i64 vl, .int .i64 cw, .int .i64 (b - eg0 - cw - vl)]) _ _ l3 Tryd.underlying27 rfl (by kernel_rfl) ?_) | ((with_reducible show wpList _ _ _ (⟨none, Op.store 27 (Operand.tmp 4) (Operand.tmp 49), _, _, _, _⟩ :: _) _ _); refine wpList_putA rfl _ _ _ rfl rfl _ 0 3 [.int .i64 vl, .int .i64 cw, .int .i64 (b - eg0 - cw - vl)] _ _ rfl rfl l1 rfl (by kernel_rfl) (by kernel_rfl) (by kernel_rfl) ?_; intro w9 p9 l9 n9; replace l1 := l9.trans (congrArg (fun c => some (Obj.cells c 27 (0, 0))) (show _ = (#[.int .i64 vl, .int .i64 cw, .int .i64 (b - eg0 - cw - vl)] : Array Value) by kernel_rfl)); replace bel := p9.below bel (by omega); clear l9 n9 p9))
  exact bodyPost_ret (v := .agg (#[.int .i64 vl, .int .i64 cw, .int .i64 (b - eg0 - cw - vl)])) (results_cell_row Tryd.results34 _ _ _ _ (#[.int .i64 vl, .int .i64 cw, .int .i64 (b - eg0 - cw - vl)]) _ _ rfl l1 Tryd.underlying27 rfl (by kernel_rfl)) rfl ⟨rfl, bel⟩
theorem bl_no {s : St} {b : Int} (h : okA s b = false) : Value.tuple #[.agg (#[.int .i64 0, .int .i64 0, .int .i64 0]), .bool false] = blV s b := by simp [blV, h, acV]
theorem bl_yes {s : St} {b : Int} (h : okA s b = true) : Value.tuple #[.agg (#[.int .i64 (blL s b), .int .i64 (blW s b), .int .i64 (blR s b)]), .bool true] = blV s b := by simp [blV, h, acV]
/-- The left margin is what the model has. -/
theorem lb_eq {s : St} {b : Int} (h : okA s b = true) (hc : ¬ (s.w.a = true ∧ blW s b = w0 s b)) : lbZ s (mlN s b) (mrN s b) (b - eg s - blW s b) = blL s b := by
  obtain ⟨hs, _⟩ := okA_yes h
  obtain ⟨z1, z2, _⟩ := style_sz hs
  unfold lbZ blL
  rw [if_neg hc]
  generalize b - eg s - blW s b = rest
  cases ha : s.ml.a
  · simp
  · have e0 : mlN s b = 0 := szN_au (by rw [ha] at z1; exact z1)
    rw [e0]
    cases hr : s.mr.a
    · simp
      split <;> omega
    · have e1 : mrN s b = 0 := szN_au (by rw [hr] at z2; exact z2)
      rw [e1, down2, down2]
      simp
      split <;> omega
theorem block1_any (s : St) (b : Int) (w : World) (ha : okA s b = true) :
    Calls Tryd.prog 34 #[.agg #[.int .i64 s.sh, .int .i64 s.fl, .int .i64 s.cl, .bool s.w.a, .bool s.w.p, .int .i64 s.w.n, .bool s.h.a, .bool s.h.p, .int .i64 s.h.n, .int .i64 s.mn, .int .i64 s.mx, .int .i64 s.mt, .bool s.mr.a, .bool s.mr.p, .int .i64 s.mr.n, .int .i64 s.mb, .bool s.ml.a, .bool s.ml.p, .int .i64 s.ml.n, .int .i64 s.bo, .int .i64 s.pa, .int .i64 s.wh, .int .i64 s.al, .int .i64 s.lh, .int .i64 s.ri, .int .i64 s.dn], .int .i64 b] w fun e w' => e = .returned (.agg (#[.int .i64 (blL s b), .int .i64 (blW s b), .int .i64 (blR s b)])) ∧ Below w.heap.size w w' := by
  rcases Bool.eq_false_or_eq_true s.w.a with hw | hw
  · by_cases hc : blW s b = w0 s b
    · have h := block_auto s b w ha hw hc
      rw [show mlN s b = blL s b by unfold blL; rw [if_pos ⟨hw, hc⟩]] at h
      rw [show b - eg s - blW s b - blL s b = blR s b from rfl] at h
      exact h
    · have h := block_cut s b w ha hw hc
      rw [lb_eq ha (fun h => hc h.2), show b - eg s - blW s b - blL s b = blR s b from rfl] at h
      exact h
  · have h := block_told s b w ha hw
    rw [lb_eq ha (fun h => by rw [hw] at h; exact absurd h.1 (by decide)), show b - eg s - blW s b - blL s b = blR s b from rfl] at h
    exact h
set_option maxRecDepth 100000 in
set_option maxHeartbeats 4000000 in
theorem block_y (s : St) (b : Int) (w : World) (et : TypeId) (ev : Value) (he : w.cell? ⟨1, 0, none⟩ = some (.iface et ev)) (ha : okA s b = true) :
    Calls Tryd.prog 10 #[.agg #[.int .i64 s.sh, .int .i64 s.fl, .int .i64 s.cl, .bool s.w.a, .bool s.w.p, .int .i64 s.w.n, .bool s.h.a, .bool s.h.p, .int .i64 s.h.n, .int .i64 s.mn, .int .i64 s.mx, .int .i64 s.mt, .bool s.mr.a, .bool s.mr.p, .int .i64 s.mr.n, .int .i64 s.mb, .bool s.ml.a, .bool s.ml.p, .int .i64 s.ml.n, .int .i64 s.bo, .int .i64 s.pa, .int .i64 s.wh, .int .i64 s.al, .int .i64 s.lh, .int .i64 s.ri, .int .i64 s.dn], .int .i64 b] w fun e w' => e = .returned (.tuple #[.agg (#[.int .i64 (blL s b), .int .i64 (blW s b), .int .i64 (blR s b)]), .bool true]) ∧ Below w.heap.size w w' := by
  have l0 : ((w.alloc (.cells (#[.int .i64 s.sh, .int .i64 s.fl, .int .i64 s.cl, .bool s.w.a, .bool s.w.p, .int .i64 s.w.n, .bool s.h.a, .bool s.h.p, .int .i64 s.h.n, .int .i64 s.mn, .int .i64 s.mx, .int .i64 s.mt, .bool s.mr.a, .bool s.mr.p, .int .i64 s.mr.n, .int .i64 s.mb, .bool s.ml.a, .bool s.ml.p, .int .i64 s.ml.n, .int .i64 s.bo, .int .i64 s.pa, .int .i64 s.wh, .int .i64 s.al, .int .i64 s.lh, .int .i64 s.ri, .int .i64 s.dn]) 32)).alloc (.cells (#[.int .i64 0, .int .i64 0, .int .i64 0]) 27)).heap[w.heap.size]? = some (.cells (stCells s) 32 (0, 0)) := heap_in (heap_at _ _ _ rfl)
  have l1 : ((w.alloc (.cells (#[.int .i64 s.sh, .int .i64 s.fl, .int .i64 s.cl, .bool s.w.a, .bool s.w.p, .int .i64 s.w.n, .bool s.h.a, .bool s.h.p, .int .i64 s.h.n, .int .i64 s.mn, .int .i64 s.mx, .int .i64 s.mt, .bool s.mr.a, .bool s.mr.p, .int .i64 s.mr.n, .int .i64 s.mb, .bool s.ml.a, .bool s.ml.p, .int .i64 s.ml.n, .int .i64 s.bo, .int .i64 s.pa, .int .i64 s.wh, .int .i64 s.al, .int .i64 s.lh, .int .i64 s.ri, .int .i64 s.dn]) 32)).alloc (.cells (#[.int .i64 0, .int .i64 0, .int .i64 0]) 27)).heap[w.heap.size + 1]? = some (.cells (#[.int .i64 0, .int .i64 0, .int .i64 0]) 27 (0, 0)) := heap_at _ _ _ (by simp)
  have bel : Below w.heap.size w ((w.alloc (.cells (#[.int .i64 s.sh, .int .i64 s.fl, .int .i64 s.cl, .bool s.w.a, .bool s.w.p, .int .i64 s.w.n, .bool s.h.a, .bool s.h.p, .int .i64 s.h.n, .int .i64 s.mn, .int .i64 s.mx, .int .i64 s.mt, .bool s.mr.a, .bool s.mr.p, .int .i64 s.mr.n, .int .i64 s.mb, .bool s.ml.a, .bool s.ml.p, .int .i64 s.ml.n, .int .i64 s.bo, .int .i64 s.pa, .int .i64 s.wh, .int .i64 s.al, .int .i64 s.lh, .int .i64 s.ri, .int .i64 s.dn]) 32)).alloc (.cells (#[.int .i64 0, .int .i64 0, .int .i64 0]) 27)) := ((Below.refl _ _).alloc (Nat.le_refl _) _).alloc (by simp) _
  have lte : 1 < w.heap.size := World.block_lt_of_cell? _ ⟨1, 0, none⟩ he
  have IT := isTold_any s b ((w.alloc (.cells (#[.int .i64 s.sh, .int .i64 s.fl, .int .i64 s.cl, .bool s.w.a, .bool s.w.p, .int .i64 s.w.n, .bool s.h.a, .bool s.h.p, .int .i64 s.h.n, .int .i64 s.mn, .int .i64 s.mx, .int .i64 s.mt, .bool s.mr.a, .bool s.mr.p, .int .i64 s.mr.n, .int .i64 s.mb, .bool s.ml.a, .bool s.ml.p, .int .i64 s.ml.n, .int .i64 s.bo, .int .i64 s.pa, .int .i64 s.wh, .int .i64 s.al, .int .i64 s.lh, .int .i64 s.ri, .int .i64 s.dn]) 32)).alloc (.cells (#[.int .i64 0, .int .i64 0, .int .i64 0]) 27)) et ev ((bel.cell (p := ⟨1, 0, none⟩) lte).trans he)
  clear he
  have BA := fun w => block1_any s b w ha
  rw [ha] at IT
  clear ha
  generalize blL s b = vl at BA ⊢
  generalize blW s b = vx at BA ⊢
  generalize blR s b = vm at BA ⊢
  go_enter Tryd.func10, Tryd.ntmps10
  go_wp2_with ((with_reducible show wpList _ _ _ (⟨some 6, Op.load 32 _, _, _, _, _⟩ :: _) _ _); refine wpList_load_row rfl 32 _ rfl (w.heap.size) rfl _ (stCells s) _ _ l0 Tryd.underlying32 rfl (by kernel_rfl) ?_)
  refine IT.mono ?_
  rintro e w1 ⟨rfl, hb⟩
  replace bel := bel.trans (hb.mono bel.size)
  replace l0 := below_lies hb l0 (lies_lt l0)
  replace l1 := below_lies hb l1 (lies_lt l1)
  clear hb
  go_wp2_with (first | ((with_reducible show wpList _ _ _ (⟨some 11, Op.load 32 _, _, _, _, _⟩ :: _) _ _); refine wpList_load_row rfl 32 _ rfl (w.heap.size) rfl _ (stCells s) _ _ l0 Tryd.underlying32 rfl (by kernel_rfl) ?_) | fail)
  refine (BA _).mono ?_
  rintro e w2 ⟨rfl, hb⟩
  replace bel := bel.trans (hb.mono bel.size)
  replace l0 := below_lies hb l0 (lies_lt l0)
  replace l1 := below_lies hb l1 (lies_lt l1)
  clear hb
  go_wp2_with ((with_reducible show wpList _ _ _ (⟨none, Op.store 27 (Operand.tmp 4) (Operand.tmp 13), _, _, _, _⟩ :: _) _ _); refine wpList_putA rfl _ _ _ rfl rfl _ 0 3 [.int .i64 vl, .int .i64 vx, .int .i64 vm] _ _ rfl rfl l1 rfl (by kernel_rfl) (by kernel_rfl) (by kernel_rfl) ?_; intro w9 p9 l9 n9; replace l1 := l9.trans (congrArg (fun c => some (Obj.cells c 27 (0, 0))) (show _ = (#[.int .i64 vl, .int .i64 vx, .int .i64 vm] : Array Value) by kernel_rfl)); replace bel := p9.below bel (by omega); clear l9 n9 p9)
  exact bodyPost_ret (v := .tuple #[.agg (#[.int .i64 vl, .int .i64 vx, .int .i64 vm]), .bool true]) (results_row_tmp Tryd.results10 _ _ _ _ (#[.int .i64 vl, .int .i64 vx, .int .i64 vm]) _ _ _ rfl l1 Tryd.underlying27 rfl (by kernel_rfl) rfl) rfl ⟨rfl, bel⟩
theorem implBlock_any (s : St) (b : Int) (w : World) (et : TypeId) (ev : Value) (he : w.cell? ⟨1, 0, none⟩ = some (.iface et ev)) :
    Calls Tryd.prog 10 #[.agg #[.int .i64 s.sh, .int .i64 s.fl, .int .i64 s.cl, .bool s.w.a, .bool s.w.p, .int .i64 s.w.n, .bool s.h.a, .bool s.h.p, .int .i64 s.h.n, .int .i64 s.mn, .int .i64 s.mx, .int .i64 s.mt, .bool s.mr.a, .bool s.mr.p, .int .i64 s.mr.n, .int .i64 s.mb, .bool s.ml.a, .bool s.ml.p, .int .i64 s.ml.n, .int .i64 s.bo, .int .i64 s.pa, .int .i64 s.wh, .int .i64 s.al, .int .i64 s.lh, .int .i64 s.ri, .int .i64 s.dn], .int .i64 b] w fun e w' => e = .returned (blV s b) ∧ Below w.heap.size w w' := by
  rcases Bool.eq_false_or_eq_true (okA s b) with ha | ha
  rotate_left
  · have h := block_a s b w et ev he ha
    rw [bl_no ha] at h
    exact h
  have h := block_y s b w et ev he ha
  rw [bl_yes ha] at h
  exact h
end Go.Proofs.YtijondjiehoafaaDoor
