/-
  The model's l4Set: a style with one thing set by its name, for each of the eighteen names.
-/
import Derived.Test.YtdgagjnkbmckoaaGreatDoorSty
namespace Go.Proofs.YtdgagjnkbmckoaaGreatDoor
open Go.ChangeShapes Go.WideShapes Go.ChangeAt Go.RowKit
set_option linter.unusedVariables false

def setCells (s : St) : Array Value := #[.int .i64 s.sh, .int .i64 s.fl, .int .i64 s.cl, .bool s.w.a, .bool s.w.p, .int .i64 s.w.n, .bool s.h.a, .bool s.h.p, .int .i64 s.h.n, .int .i64 s.mn, .int .i64 s.mx, .int .i64 s.mt, .bool s.mr.a, .bool s.mr.p, .int .i64 s.mr.n, .int .i64 s.mb, .bool s.ml.a, .bool s.ml.p, .int .i64 s.ml.n, .int .i64 s.bo, .int .i64 s.pa, .int .i64 s.wh, .int .i64 s.al, .int .i64 s.lh, .int .i64 s.ri, .int .i64 s.dn]
set_option maxRecDepth 100000 in
set_option maxHeartbeats 4000000 in
theorem l4Set_0 (s : St) (n m : Int) (a p : Bool) (w : World) :
    Calls Tryz.prog 10 #[.agg #[.int .i64 s.sh, .int .i64 s.fl, .int .i64 s.cl, .bool s.w.a, .bool s.w.p, .int .i64 s.w.n, .bool s.h.a, .bool s.h.p, .int .i64 s.h.n, .int .i64 s.mn, .int .i64 s.mx, .int .i64 s.mt, .bool s.mr.a, .bool s.mr.p, .int .i64 s.mr.n, .int .i64 s.mb, .bool s.ml.a, .bool s.ml.p, .int .i64 s.ml.n, .int .i64 s.bo, .int .i64 s.pa, .int .i64 s.wh, .int .i64 s.al, .int .i64 s.lh, .int .i64 s.ri, .int .i64 s.dn], .string ⟨#[115, 104, 111, 119]⟩, .int .i64 n, .agg #[.bool a, .bool p, .int .i64 m]] w fun e w' => e = .returned (.agg (setCells ({ s with sh := n }))) ∧ Below w.heap.size w w' := by
  go_enter Tryz.func10, Tryz.ntmps10
  iterate 15 go_step
  refine wp_gen3 ?_
  intro W bel l0 l1 l2
  have x0 : W.cell? ⟨w.heap.size + 1, 0, none⟩ = some (.bool a) := lies_cell l1 0
  have x1 : W.cell? ⟨w.heap.size + 1, 1, none⟩ = some (.bool p) := lies_cell l1 1
  have x2 : W.cell? ⟨w.heap.size + 1, 2, none⟩ = some (.int .i64 m) := lies_cell l1 2
  clear l1
  go_wp2_with (first
    | ((with_reducible show wpList _ _ _ (⟨none, Op.store 3 _ _, _, _, _, _⟩ :: _) _ _); refine wpList_putA rfl _ _ _ rfl rfl _ 0 26 [.int .i64 n] _ _ rfl rfl l0 rfl (by kernel_rfl) (by kernel_rfl) (by kernel_rfl) ?_; intro w9 p9 l9 n9; replace l0 := l9.trans (congrArg (fun c => some (Obj.cells c 25 (0, 0))) (show _ = setCells ({ s with sh := n }) by kernel_rfl)); replace bel := p9.below bel (by omega); replace l2 := p9.lies l2 (by omega); clear l9 n9 p9)
    | ((with_reducible show wpList _ _ _ (⟨some 91, Op.load 25 _, _, _, _, _⟩ :: _) _ _); refine wpList_load_row rfl 25 _ rfl w.heap.size rfl _ (setCells ({ s with sh := n })) _ _ l0 Tryz.underlying25 rfl (by kernel_rfl) ?_)
    | ((with_reducible show wpList _ _ _ (⟨none, Op.store 25 _ _, _, _, _, _⟩ :: _) _ _); refine wpList_putA rfl _ _ _ rfl rfl _ 0 26 (setCells ({ s with sh := n })).toList _ _ rfl rfl l2 rfl (by kernel_rfl) (by kernel_rfl) (by kernel_rfl) ?_; intro w9 p9 l9 n9; replace l2 := l9.trans (congrArg (fun c => some (Obj.cells c 25 (0, 0))) (show _ = setCells ({ s with sh := n }) by kernel_rfl)); replace bel := p9.below bel (by omega); clear l9 n9 p9))
  exact bodyPost_ret (v := .agg (setCells ({ s with sh := n }))) (results_cell_row Tryz.results10 _ _ _ _ (setCells ({ s with sh := n })) _ _ rfl l2 Tryz.underlying25 rfl (by kernel_rfl)) rfl ⟨rfl, bel⟩
set_option maxRecDepth 100000 in
set_option maxHeartbeats 4000000 in
theorem l4Set_1 (s : St) (n m : Int) (a p : Bool) (w : World) :
    Calls Tryz.prog 10 #[.agg #[.int .i64 s.sh, .int .i64 s.fl, .int .i64 s.cl, .bool s.w.a, .bool s.w.p, .int .i64 s.w.n, .bool s.h.a, .bool s.h.p, .int .i64 s.h.n, .int .i64 s.mn, .int .i64 s.mx, .int .i64 s.mt, .bool s.mr.a, .bool s.mr.p, .int .i64 s.mr.n, .int .i64 s.mb, .bool s.ml.a, .bool s.ml.p, .int .i64 s.ml.n, .int .i64 s.bo, .int .i64 s.pa, .int .i64 s.wh, .int .i64 s.al, .int .i64 s.lh, .int .i64 s.ri, .int .i64 s.dn], .string ⟨#[102, 108, 111, 97, 116]⟩, .int .i64 n, .agg #[.bool a, .bool p, .int .i64 m]] w fun e w' => e = .returned (.agg (setCells ({ s with fl := n }))) ∧ Below w.heap.size w w' := by
  go_enter Tryz.func10, Tryz.ntmps10
  iterate 15 go_step
  refine wp_gen3 ?_
  intro W bel l0 l1 l2
  have x0 : W.cell? ⟨w.heap.size + 1, 0, none⟩ = some (.bool a) := lies_cell l1 0
  have x1 : W.cell? ⟨w.heap.size + 1, 1, none⟩ = some (.bool p) := lies_cell l1 1
  have x2 : W.cell? ⟨w.heap.size + 1, 2, none⟩ = some (.int .i64 m) := lies_cell l1 2
  clear l1
  go_wp2_with (first
    | ((with_reducible show wpList _ _ _ (⟨none, Op.store 3 _ _, _, _, _, _⟩ :: _) _ _); refine wpList_putA rfl _ _ _ rfl rfl _ 1 26 [.int .i64 n] _ _ rfl rfl l0 rfl (by kernel_rfl) (by kernel_rfl) (by kernel_rfl) ?_; intro w9 p9 l9 n9; replace l0 := l9.trans (congrArg (fun c => some (Obj.cells c 25 (0, 0))) (show _ = setCells ({ s with fl := n }) by kernel_rfl)); replace bel := p9.below bel (by omega); replace l2 := p9.lies l2 (by omega); clear l9 n9 p9)
    | ((with_reducible show wpList _ _ _ (⟨some 91, Op.load 25 _, _, _, _, _⟩ :: _) _ _); refine wpList_load_row rfl 25 _ rfl w.heap.size rfl _ (setCells ({ s with fl := n })) _ _ l0 Tryz.underlying25 rfl (by kernel_rfl) ?_)
    | ((with_reducible show wpList _ _ _ (⟨none, Op.store 25 _ _, _, _, _, _⟩ :: _) _ _); refine wpList_putA rfl _ _ _ rfl rfl _ 0 26 (setCells ({ s with fl := n })).toList _ _ rfl rfl l2 rfl (by kernel_rfl) (by kernel_rfl) (by kernel_rfl) ?_; intro w9 p9 l9 n9; replace l2 := l9.trans (congrArg (fun c => some (Obj.cells c 25 (0, 0))) (show _ = setCells ({ s with fl := n }) by kernel_rfl)); replace bel := p9.below bel (by omega); clear l9 n9 p9))
  exact bodyPost_ret (v := .agg (setCells ({ s with fl := n }))) (results_cell_row Tryz.results10 _ _ _ _ (setCells ({ s with fl := n })) _ _ rfl l2 Tryz.underlying25 rfl (by kernel_rfl)) rfl ⟨rfl, bel⟩
set_option maxRecDepth 100000 in
set_option maxHeartbeats 4000000 in
theorem l4Set_2 (s : St) (n m : Int) (a p : Bool) (w : World) :
    Calls Tryz.prog 10 #[.agg #[.int .i64 s.sh, .int .i64 s.fl, .int .i64 s.cl, .bool s.w.a, .bool s.w.p, .int .i64 s.w.n, .bool s.h.a, .bool s.h.p, .int .i64 s.h.n, .int .i64 s.mn, .int .i64 s.mx, .int .i64 s.mt, .bool s.mr.a, .bool s.mr.p, .int .i64 s.mr.n, .int .i64 s.mb, .bool s.ml.a, .bool s.ml.p, .int .i64 s.ml.n, .int .i64 s.bo, .int .i64 s.pa, .int .i64 s.wh, .int .i64 s.al, .int .i64 s.lh, .int .i64 s.ri, .int .i64 s.dn], .string ⟨#[99, 108, 101, 97, 114]⟩, .int .i64 n, .agg #[.bool a, .bool p, .int .i64 m]] w fun e w' => e = .returned (.agg (setCells ({ s with cl := n }))) ∧ Below w.heap.size w w' := by
  go_enter Tryz.func10, Tryz.ntmps10
  iterate 15 go_step
  refine wp_gen3 ?_
  intro W bel l0 l1 l2
  have x0 : W.cell? ⟨w.heap.size + 1, 0, none⟩ = some (.bool a) := lies_cell l1 0
  have x1 : W.cell? ⟨w.heap.size + 1, 1, none⟩ = some (.bool p) := lies_cell l1 1
  have x2 : W.cell? ⟨w.heap.size + 1, 2, none⟩ = some (.int .i64 m) := lies_cell l1 2
  clear l1
  go_wp2_with (first
    | ((with_reducible show wpList _ _ _ (⟨none, Op.store 3 _ _, _, _, _, _⟩ :: _) _ _); refine wpList_putA rfl _ _ _ rfl rfl _ 2 26 [.int .i64 n] _ _ rfl rfl l0 rfl (by kernel_rfl) (by kernel_rfl) (by kernel_rfl) ?_; intro w9 p9 l9 n9; replace l0 := l9.trans (congrArg (fun c => some (Obj.cells c 25 (0, 0))) (show _ = setCells ({ s with cl := n }) by kernel_rfl)); replace bel := p9.below bel (by omega); replace l2 := p9.lies l2 (by omega); clear l9 n9 p9)
    | ((with_reducible show wpList _ _ _ (⟨some 91, Op.load 25 _, _, _, _, _⟩ :: _) _ _); refine wpList_load_row rfl 25 _ rfl w.heap.size rfl _ (setCells ({ s with cl := n })) _ _ l0 Tryz.underlying25 rfl (by kernel_rfl) ?_)
    | ((with_reducible show wpList _ _ _ (⟨none, Op.store 25 _ _, _, _, _, _⟩ :: _) _ _); refine wpList_putA rfl _ _ _ rfl rfl _ 0 26 (setCells ({ s with cl := n })).toList _ _ rfl rfl l2 rfl (by kernel_rfl) (by kernel_rfl) (by kernel_rfl) ?_; intro w9 p9 l9 n9; replace l2 := l9.trans (congrArg (fun c => some (Obj.cells c 25 (0, 0))) (show _ = setCells ({ s with cl := n }) by kernel_rfl)); replace bel := p9.below bel (by omega); clear l9 n9 p9))
  exact bodyPost_ret (v := .agg (setCells ({ s with cl := n }))) (results_cell_row Tryz.results10 _ _ _ _ (setCells ({ s with cl := n })) _ _ rfl l2 Tryz.underlying25 rfl (by kernel_rfl)) rfl ⟨rfl, bel⟩
set_option maxRecDepth 100000 in
set_option maxHeartbeats 4000000 in
theorem l4Set_3 (s : St) (n m : Int) (a p : Bool) (w : World) :
    Calls Tryz.prog 10 #[.agg #[.int .i64 s.sh, .int .i64 s.fl, .int .i64 s.cl, .bool s.w.a, .bool s.w.p, .int .i64 s.w.n, .bool s.h.a, .bool s.h.p, .int .i64 s.h.n, .int .i64 s.mn, .int .i64 s.mx, .int .i64 s.mt, .bool s.mr.a, .bool s.mr.p, .int .i64 s.mr.n, .int .i64 s.mb, .bool s.ml.a, .bool s.ml.p, .int .i64 s.ml.n, .int .i64 s.bo, .int .i64 s.pa, .int .i64 s.wh, .int .i64 s.al, .int .i64 s.lh, .int .i64 s.ri, .int .i64 s.dn], .string ⟨#[119, 105, 100, 116, 104]⟩, .int .i64 n, .agg #[.bool a, .bool p, .int .i64 m]] w fun e w' => e = .returned (.agg (setCells ({ s with w := ⟨a, p, m⟩ }))) ∧ Below w.heap.size w w' := by
  go_enter Tryz.func10, Tryz.ntmps10
  iterate 15 go_step
  refine wp_gen3 ?_
  intro W bel l0 l1 l2
  have x0 : W.cell? ⟨w.heap.size + 1, 0, none⟩ = some (.bool a) := lies_cell l1 0
  have x1 : W.cell? ⟨w.heap.size + 1, 1, none⟩ = some (.bool p) := lies_cell l1 1
  have x2 : W.cell? ⟨w.heap.size + 1, 2, none⟩ = some (.int .i64 m) := lies_cell l1 2
  clear l1
  go_wp2_with (first
    | ((with_reducible show wpList _ _ _ (⟨none, Op.store 23 _ _, _, _, _, _⟩ :: _) _ _); refine wpList_putA rfl _ _ _ rfl rfl _ 3 26 [.bool a, .bool p, .int .i64 m] _ _ rfl rfl l0 rfl (by kernel_rfl) (by kernel_rfl) (by kernel_rfl) ?_; intro w9 p9 l9 n9; replace l0 := l9.trans (congrArg (fun c => some (Obj.cells c 25 (0, 0))) (show _ = setCells ({ s with w := ⟨a, p, m⟩ }) by kernel_rfl)); replace bel := p9.below bel (by omega); replace l2 := p9.lies l2 (by omega); clear l9 n9 p9)
    | ((with_reducible show wpList _ _ _ (⟨some 91, Op.load 25 _, _, _, _, _⟩ :: _) _ _); refine wpList_load_row rfl 25 _ rfl w.heap.size rfl _ (setCells ({ s with w := ⟨a, p, m⟩ })) _ _ l0 Tryz.underlying25 rfl (by kernel_rfl) ?_)
    | ((with_reducible show wpList _ _ _ (⟨none, Op.store 25 _ _, _, _, _, _⟩ :: _) _ _); refine wpList_putA rfl _ _ _ rfl rfl _ 0 26 (setCells ({ s with w := ⟨a, p, m⟩ })).toList _ _ rfl rfl l2 rfl (by kernel_rfl) (by kernel_rfl) (by kernel_rfl) ?_; intro w9 p9 l9 n9; replace l2 := l9.trans (congrArg (fun c => some (Obj.cells c 25 (0, 0))) (show _ = setCells ({ s with w := ⟨a, p, m⟩ }) by kernel_rfl)); replace bel := p9.below bel (by omega); clear l9 n9 p9))
  exact bodyPost_ret (v := .agg (setCells ({ s with w := ⟨a, p, m⟩ }))) (results_cell_row Tryz.results10 _ _ _ _ (setCells ({ s with w := ⟨a, p, m⟩ })) _ _ rfl l2 Tryz.underlying25 rfl (by kernel_rfl)) rfl ⟨rfl, bel⟩
set_option maxRecDepth 100000 in
set_option maxHeartbeats 4000000 in
theorem l4Set_4 (s : St) (n m : Int) (a p : Bool) (w : World) :
    Calls Tryz.prog 10 #[.agg #[.int .i64 s.sh, .int .i64 s.fl, .int .i64 s.cl, .bool s.w.a, .bool s.w.p, .int .i64 s.w.n, .bool s.h.a, .bool s.h.p, .int .i64 s.h.n, .int .i64 s.mn, .int .i64 s.mx, .int .i64 s.mt, .bool s.mr.a, .bool s.mr.p, .int .i64 s.mr.n, .int .i64 s.mb, .bool s.ml.a, .bool s.ml.p, .int .i64 s.ml.n, .int .i64 s.bo, .int .i64 s.pa, .int .i64 s.wh, .int .i64 s.al, .int .i64 s.lh, .int .i64 s.ri, .int .i64 s.dn], .string ⟨#[104, 101, 105, 103, 104, 116]⟩, .int .i64 n, .agg #[.bool a, .bool p, .int .i64 m]] w fun e w' => e = .returned (.agg (setCells ({ s with h := ⟨a, p, m⟩ }))) ∧ Below w.heap.size w w' := by
  go_enter Tryz.func10, Tryz.ntmps10
  iterate 15 go_step
  refine wp_gen3 ?_
  intro W bel l0 l1 l2
  have x0 : W.cell? ⟨w.heap.size + 1, 0, none⟩ = some (.bool a) := lies_cell l1 0
  have x1 : W.cell? ⟨w.heap.size + 1, 1, none⟩ = some (.bool p) := lies_cell l1 1
  have x2 : W.cell? ⟨w.heap.size + 1, 2, none⟩ = some (.int .i64 m) := lies_cell l1 2
  clear l1
  go_wp2_with (first
    | ((with_reducible show wpList _ _ _ (⟨none, Op.store 23 _ _, _, _, _, _⟩ :: _) _ _); refine wpList_putA rfl _ _ _ rfl rfl _ 6 26 [.bool a, .bool p, .int .i64 m] _ _ rfl rfl l0 rfl (by kernel_rfl) (by kernel_rfl) (by kernel_rfl) ?_; intro w9 p9 l9 n9; replace l0 := l9.trans (congrArg (fun c => some (Obj.cells c 25 (0, 0))) (show _ = setCells ({ s with h := ⟨a, p, m⟩ }) by kernel_rfl)); replace bel := p9.below bel (by omega); replace l2 := p9.lies l2 (by omega); clear l9 n9 p9)
    | ((with_reducible show wpList _ _ _ (⟨some 91, Op.load 25 _, _, _, _, _⟩ :: _) _ _); refine wpList_load_row rfl 25 _ rfl w.heap.size rfl _ (setCells ({ s with h := ⟨a, p, m⟩ })) _ _ l0 Tryz.underlying25 rfl (by kernel_rfl) ?_)
    | ((with_reducible show wpList _ _ _ (⟨none, Op.store 25 _ _, _, _, _, _⟩ :: _) _ _); refine wpList_putA rfl _ _ _ rfl rfl _ 0 26 (setCells ({ s with h := ⟨a, p, m⟩ })).toList _ _ rfl rfl l2 rfl (by kernel_rfl) (by kernel_rfl) (by kernel_rfl) ?_; intro w9 p9 l9 n9; replace l2 := l9.trans (congrArg (fun c => some (Obj.cells c 25 (0, 0))) (show _ = setCells ({ s with h := ⟨a, p, m⟩ }) by kernel_rfl)); replace bel := p9.below bel (by omega); clear l9 n9 p9))
  exact bodyPost_ret (v := .agg (setCells ({ s with h := ⟨a, p, m⟩ }))) (results_cell_row Tryz.results10 _ _ _ _ (setCells ({ s with h := ⟨a, p, m⟩ })) _ _ rfl l2 Tryz.underlying25 rfl (by kernel_rfl)) rfl ⟨rfl, bel⟩
set_option maxRecDepth 100000 in
set_option maxHeartbeats 4000000 in
theorem l4Set_5 (s : St) (n m : Int) (a p : Bool) (w : World) :
    Calls Tryz.prog 10 #[.agg #[.int .i64 s.sh, .int .i64 s.fl, .int .i64 s.cl, .bool s.w.a, .bool s.w.p, .int .i64 s.w.n, .bool s.h.a, .bool s.h.p, .int .i64 s.h.n, .int .i64 s.mn, .int .i64 s.mx, .int .i64 s.mt, .bool s.mr.a, .bool s.mr.p, .int .i64 s.mr.n, .int .i64 s.mb, .bool s.ml.a, .bool s.ml.p, .int .i64 s.ml.n, .int .i64 s.bo, .int .i64 s.pa, .int .i64 s.wh, .int .i64 s.al, .int .i64 s.lh, .int .i64 s.ri, .int .i64 s.dn], .string ⟨#[109, 105, 110, 45, 119, 105, 100, 116, 104]⟩, .int .i64 n, .agg #[.bool a, .bool p, .int .i64 m]] w fun e w' => e = .returned (.agg (setCells ({ s with mn := m }))) ∧ Below w.heap.size w w' := by
  go_enter Tryz.func10, Tryz.ntmps10
  iterate 15 go_step
  refine wp_gen3 ?_
  intro W bel l0 l1 l2
  have x0 : W.cell? ⟨w.heap.size + 1, 0, none⟩ = some (.bool a) := lies_cell l1 0
  have x1 : W.cell? ⟨w.heap.size + 1, 1, none⟩ = some (.bool p) := lies_cell l1 1
  have x2 : W.cell? ⟨w.heap.size + 1, 2, none⟩ = some (.int .i64 m) := lies_cell l1 2
  clear l1
  go_wp2_with (first
    | ((with_reducible show wpList _ _ _ (⟨none, Op.store 3 _ _, _, _, _, _⟩ :: _) _ _); refine wpList_putA rfl _ _ _ rfl rfl _ 9 26 [.int .i64 m] _ _ rfl rfl l0 rfl (by kernel_rfl) (by kernel_rfl) (by kernel_rfl) ?_; intro w9 p9 l9 n9; replace l0 := l9.trans (congrArg (fun c => some (Obj.cells c 25 (0, 0))) (show _ = setCells ({ s with mn := m }) by kernel_rfl)); replace bel := p9.below bel (by omega); replace l2 := p9.lies l2 (by omega); clear l9 n9 p9)
    | ((with_reducible show wpList _ _ _ (⟨some 91, Op.load 25 _, _, _, _, _⟩ :: _) _ _); refine wpList_load_row rfl 25 _ rfl w.heap.size rfl _ (setCells ({ s with mn := m })) _ _ l0 Tryz.underlying25 rfl (by kernel_rfl) ?_)
    | ((with_reducible show wpList _ _ _ (⟨none, Op.store 25 _ _, _, _, _, _⟩ :: _) _ _); refine wpList_putA rfl _ _ _ rfl rfl _ 0 26 (setCells ({ s with mn := m })).toList _ _ rfl rfl l2 rfl (by kernel_rfl) (by kernel_rfl) (by kernel_rfl) ?_; intro w9 p9 l9 n9; replace l2 := l9.trans (congrArg (fun c => some (Obj.cells c 25 (0, 0))) (show _ = setCells ({ s with mn := m }) by kernel_rfl)); replace bel := p9.below bel (by omega); clear l9 n9 p9))
  exact bodyPost_ret (v := .agg (setCells ({ s with mn := m }))) (results_cell_row Tryz.results10 _ _ _ _ (setCells ({ s with mn := m })) _ _ rfl l2 Tryz.underlying25 rfl (by kernel_rfl)) rfl ⟨rfl, bel⟩
set_option maxRecDepth 100000 in
set_option maxHeartbeats 4000000 in
theorem l4Set_6 (s : St) (n m : Int) (a p : Bool) (w : World) :
    Calls Tryz.prog 10 #[.agg #[.int .i64 s.sh, .int .i64 s.fl, .int .i64 s.cl, .bool s.w.a, .bool s.w.p, .int .i64 s.w.n, .bool s.h.a, .bool s.h.p, .int .i64 s.h.n, .int .i64 s.mn, .int .i64 s.mx, .int .i64 s.mt, .bool s.mr.a, .bool s.mr.p, .int .i64 s.mr.n, .int .i64 s.mb, .bool s.ml.a, .bool s.ml.p, .int .i64 s.ml.n, .int .i64 s.bo, .int .i64 s.pa, .int .i64 s.wh, .int .i64 s.al, .int .i64 s.lh, .int .i64 s.ri, .int .i64 s.dn], .string ⟨#[109, 97, 120, 45, 119, 105, 100, 116, 104]⟩, .int .i64 n, .agg #[.bool a, .bool p, .int .i64 m]] w fun e w' => e = .returned (.agg (setCells ({ s with mx := m }))) ∧ Below w.heap.size w w' := by
  go_enter Tryz.func10, Tryz.ntmps10
  iterate 15 go_step
  refine wp_gen3 ?_
  intro W bel l0 l1 l2
  have x0 : W.cell? ⟨w.heap.size + 1, 0, none⟩ = some (.bool a) := lies_cell l1 0
  have x1 : W.cell? ⟨w.heap.size + 1, 1, none⟩ = some (.bool p) := lies_cell l1 1
  have x2 : W.cell? ⟨w.heap.size + 1, 2, none⟩ = some (.int .i64 m) := lies_cell l1 2
  clear l1
  go_wp2_with (first
    | ((with_reducible show wpList _ _ _ (⟨none, Op.store 3 _ _, _, _, _, _⟩ :: _) _ _); refine wpList_putA rfl _ _ _ rfl rfl _ 10 26 [.int .i64 m] _ _ rfl rfl l0 rfl (by kernel_rfl) (by kernel_rfl) (by kernel_rfl) ?_; intro w9 p9 l9 n9; replace l0 := l9.trans (congrArg (fun c => some (Obj.cells c 25 (0, 0))) (show _ = setCells ({ s with mx := m }) by kernel_rfl)); replace bel := p9.below bel (by omega); replace l2 := p9.lies l2 (by omega); clear l9 n9 p9)
    | ((with_reducible show wpList _ _ _ (⟨some 91, Op.load 25 _, _, _, _, _⟩ :: _) _ _); refine wpList_load_row rfl 25 _ rfl w.heap.size rfl _ (setCells ({ s with mx := m })) _ _ l0 Tryz.underlying25 rfl (by kernel_rfl) ?_)
    | ((with_reducible show wpList _ _ _ (⟨none, Op.store 25 _ _, _, _, _, _⟩ :: _) _ _); refine wpList_putA rfl _ _ _ rfl rfl _ 0 26 (setCells ({ s with mx := m })).toList _ _ rfl rfl l2 rfl (by kernel_rfl) (by kernel_rfl) (by kernel_rfl) ?_; intro w9 p9 l9 n9; replace l2 := l9.trans (congrArg (fun c => some (Obj.cells c 25 (0, 0))) (show _ = setCells ({ s with mx := m }) by kernel_rfl)); replace bel := p9.below bel (by omega); clear l9 n9 p9))
  exact bodyPost_ret (v := .agg (setCells ({ s with mx := m }))) (results_cell_row Tryz.results10 _ _ _ _ (setCells ({ s with mx := m })) _ _ rfl l2 Tryz.underlying25 rfl (by kernel_rfl)) rfl ⟨rfl, bel⟩
set_option maxRecDepth 100000 in
set_option maxHeartbeats 4000000 in
theorem l4Set_7 (s : St) (n m : Int) (a p : Bool) (w : World) :
    Calls Tryz.prog 10 #[.agg #[.int .i64 s.sh, .int .i64 s.fl, .int .i64 s.cl, .bool s.w.a, .bool s.w.p, .int .i64 s.w.n, .bool s.h.a, .bool s.h.p, .int .i64 s.h.n, .int .i64 s.mn, .int .i64 s.mx, .int .i64 s.mt, .bool s.mr.a, .bool s.mr.p, .int .i64 s.mr.n, .int .i64 s.mb, .bool s.ml.a, .bool s.ml.p, .int .i64 s.ml.n, .int .i64 s.bo, .int .i64 s.pa, .int .i64 s.wh, .int .i64 s.al, .int .i64 s.lh, .int .i64 s.ri, .int .i64 s.dn], .string ⟨#[109, 97, 114, 103, 105, 110, 45, 116, 111, 112]⟩, .int .i64 n, .agg #[.bool a, .bool p, .int .i64 m]] w fun e w' => e = .returned (.agg (setCells ({ s with mt := m }))) ∧ Below w.heap.size w w' := by
  go_enter Tryz.func10, Tryz.ntmps10
  iterate 15 go_step
  refine wp_gen3 ?_
  intro W bel l0 l1 l2
  have x0 : W.cell? ⟨w.heap.size + 1, 0, none⟩ = some (.bool a) := lies_cell l1 0
  have x1 : W.cell? ⟨w.heap.size + 1, 1, none⟩ = some (.bool p) := lies_cell l1 1
  have x2 : W.cell? ⟨w.heap.size + 1, 2, none⟩ = some (.int .i64 m) := lies_cell l1 2
  clear l1
  go_wp2_with (first
    | ((with_reducible show wpList _ _ _ (⟨none, Op.store 3 _ _, _, _, _, _⟩ :: _) _ _); refine wpList_putA rfl _ _ _ rfl rfl _ 11 26 [.int .i64 m] _ _ rfl rfl l0 rfl (by kernel_rfl) (by kernel_rfl) (by kernel_rfl) ?_; intro w9 p9 l9 n9; replace l0 := l9.trans (congrArg (fun c => some (Obj.cells c 25 (0, 0))) (show _ = setCells ({ s with mt := m }) by kernel_rfl)); replace bel := p9.below bel (by omega); replace l2 := p9.lies l2 (by omega); clear l9 n9 p9)
    | ((with_reducible show wpList _ _ _ (⟨some 91, Op.load 25 _, _, _, _, _⟩ :: _) _ _); refine wpList_load_row rfl 25 _ rfl w.heap.size rfl _ (setCells ({ s with mt := m })) _ _ l0 Tryz.underlying25 rfl (by kernel_rfl) ?_)
    | ((with_reducible show wpList _ _ _ (⟨none, Op.store 25 _ _, _, _, _, _⟩ :: _) _ _); refine wpList_putA rfl _ _ _ rfl rfl _ 0 26 (setCells ({ s with mt := m })).toList _ _ rfl rfl l2 rfl (by kernel_rfl) (by kernel_rfl) (by kernel_rfl) ?_; intro w9 p9 l9 n9; replace l2 := l9.trans (congrArg (fun c => some (Obj.cells c 25 (0, 0))) (show _ = setCells ({ s with mt := m }) by kernel_rfl)); replace bel := p9.below bel (by omega); clear l9 n9 p9))
  exact bodyPost_ret (v := .agg (setCells ({ s with mt := m }))) (results_cell_row Tryz.results10 _ _ _ _ (setCells ({ s with mt := m })) _ _ rfl l2 Tryz.underlying25 rfl (by kernel_rfl)) rfl ⟨rfl, bel⟩
set_option maxRecDepth 100000 in
set_option maxHeartbeats 4000000 in
theorem l4Set_8 (s : St) (n m : Int) (a p : Bool) (w : World) :
    Calls Tryz.prog 10 #[.agg #[.int .i64 s.sh, .int .i64 s.fl, .int .i64 s.cl, .bool s.w.a, .bool s.w.p, .int .i64 s.w.n, .bool s.h.a, .bool s.h.p, .int .i64 s.h.n, .int .i64 s.mn, .int .i64 s.mx, .int .i64 s.mt, .bool s.mr.a, .bool s.mr.p, .int .i64 s.mr.n, .int .i64 s.mb, .bool s.ml.a, .bool s.ml.p, .int .i64 s.ml.n, .int .i64 s.bo, .int .i64 s.pa, .int .i64 s.wh, .int .i64 s.al, .int .i64 s.lh, .int .i64 s.ri, .int .i64 s.dn], .string ⟨#[109, 97, 114, 103, 105, 110, 45, 114, 105, 103, 104, 116]⟩, .int .i64 n, .agg #[.bool a, .bool p, .int .i64 m]] w fun e w' => e = .returned (.agg (setCells ({ s with mr := ⟨a, p, m⟩ }))) ∧ Below w.heap.size w w' := by
  go_enter Tryz.func10, Tryz.ntmps10
  iterate 15 go_step
  refine wp_gen3 ?_
  intro W bel l0 l1 l2
  have x0 : W.cell? ⟨w.heap.size + 1, 0, none⟩ = some (.bool a) := lies_cell l1 0
  have x1 : W.cell? ⟨w.heap.size + 1, 1, none⟩ = some (.bool p) := lies_cell l1 1
  have x2 : W.cell? ⟨w.heap.size + 1, 2, none⟩ = some (.int .i64 m) := lies_cell l1 2
  clear l1
  go_wp2_with (first
    | ((with_reducible show wpList _ _ _ (⟨none, Op.store 23 _ _, _, _, _, _⟩ :: _) _ _); refine wpList_putA rfl _ _ _ rfl rfl _ 12 26 [.bool a, .bool p, .int .i64 m] _ _ rfl rfl l0 rfl (by kernel_rfl) (by kernel_rfl) (by kernel_rfl) ?_; intro w9 p9 l9 n9; replace l0 := l9.trans (congrArg (fun c => some (Obj.cells c 25 (0, 0))) (show _ = setCells ({ s with mr := ⟨a, p, m⟩ }) by kernel_rfl)); replace bel := p9.below bel (by omega); replace l2 := p9.lies l2 (by omega); clear l9 n9 p9)
    | ((with_reducible show wpList _ _ _ (⟨some 91, Op.load 25 _, _, _, _, _⟩ :: _) _ _); refine wpList_load_row rfl 25 _ rfl w.heap.size rfl _ (setCells ({ s with mr := ⟨a, p, m⟩ })) _ _ l0 Tryz.underlying25 rfl (by kernel_rfl) ?_)
    | ((with_reducible show wpList _ _ _ (⟨none, Op.store 25 _ _, _, _, _, _⟩ :: _) _ _); refine wpList_putA rfl _ _ _ rfl rfl _ 0 26 (setCells ({ s with mr := ⟨a, p, m⟩ })).toList _ _ rfl rfl l2 rfl (by kernel_rfl) (by kernel_rfl) (by kernel_rfl) ?_; intro w9 p9 l9 n9; replace l2 := l9.trans (congrArg (fun c => some (Obj.cells c 25 (0, 0))) (show _ = setCells ({ s with mr := ⟨a, p, m⟩ }) by kernel_rfl)); replace bel := p9.below bel (by omega); clear l9 n9 p9))
  exact bodyPost_ret (v := .agg (setCells ({ s with mr := ⟨a, p, m⟩ }))) (results_cell_row Tryz.results10 _ _ _ _ (setCells ({ s with mr := ⟨a, p, m⟩ })) _ _ rfl l2 Tryz.underlying25 rfl (by kernel_rfl)) rfl ⟨rfl, bel⟩
set_option maxRecDepth 100000 in
set_option maxHeartbeats 4000000 in
theorem l4Set_9 (s : St) (n m : Int) (a p : Bool) (w : World) :
    Calls Tryz.prog 10 #[.agg #[.int .i64 s.sh, .int .i64 s.fl, .int .i64 s.cl, .bool s.w.a, .bool s.w.p, .int .i64 s.w.n, .bool s.h.a, .bool s.h.p, .int .i64 s.h.n, .int .i64 s.mn, .int .i64 s.mx, .int .i64 s.mt, .bool s.mr.a, .bool s.mr.p, .int .i64 s.mr.n, .int .i64 s.mb, .bool s.ml.a, .bool s.ml.p, .int .i64 s.ml.n, .int .i64 s.bo, .int .i64 s.pa, .int .i64 s.wh, .int .i64 s.al, .int .i64 s.lh, .int .i64 s.ri, .int .i64 s.dn], .string ⟨#[109, 97, 114, 103, 105, 110, 45, 98, 111, 116, 116, 111, 109]⟩, .int .i64 n, .agg #[.bool a, .bool p, .int .i64 m]] w fun e w' => e = .returned (.agg (setCells ({ s with mb := m }))) ∧ Below w.heap.size w w' := by
  go_enter Tryz.func10, Tryz.ntmps10
  iterate 15 go_step
  refine wp_gen3 ?_
  intro W bel l0 l1 l2
  have x0 : W.cell? ⟨w.heap.size + 1, 0, none⟩ = some (.bool a) := lies_cell l1 0
  have x1 : W.cell? ⟨w.heap.size + 1, 1, none⟩ = some (.bool p) := lies_cell l1 1
  have x2 : W.cell? ⟨w.heap.size + 1, 2, none⟩ = some (.int .i64 m) := lies_cell l1 2
  clear l1
  go_wp2_with (first
    | ((with_reducible show wpList _ _ _ (⟨none, Op.store 3 _ _, _, _, _, _⟩ :: _) _ _); refine wpList_putA rfl _ _ _ rfl rfl _ 15 26 [.int .i64 m] _ _ rfl rfl l0 rfl (by kernel_rfl) (by kernel_rfl) (by kernel_rfl) ?_; intro w9 p9 l9 n9; replace l0 := l9.trans (congrArg (fun c => some (Obj.cells c 25 (0, 0))) (show _ = setCells ({ s with mb := m }) by kernel_rfl)); replace bel := p9.below bel (by omega); replace l2 := p9.lies l2 (by omega); clear l9 n9 p9)
    | ((with_reducible show wpList _ _ _ (⟨some 91, Op.load 25 _, _, _, _, _⟩ :: _) _ _); refine wpList_load_row rfl 25 _ rfl w.heap.size rfl _ (setCells ({ s with mb := m })) _ _ l0 Tryz.underlying25 rfl (by kernel_rfl) ?_)
    | ((with_reducible show wpList _ _ _ (⟨none, Op.store 25 _ _, _, _, _, _⟩ :: _) _ _); refine wpList_putA rfl _ _ _ rfl rfl _ 0 26 (setCells ({ s with mb := m })).toList _ _ rfl rfl l2 rfl (by kernel_rfl) (by kernel_rfl) (by kernel_rfl) ?_; intro w9 p9 l9 n9; replace l2 := l9.trans (congrArg (fun c => some (Obj.cells c 25 (0, 0))) (show _ = setCells ({ s with mb := m }) by kernel_rfl)); replace bel := p9.below bel (by omega); clear l9 n9 p9))
  exact bodyPost_ret (v := .agg (setCells ({ s with mb := m }))) (results_cell_row Tryz.results10 _ _ _ _ (setCells ({ s with mb := m })) _ _ rfl l2 Tryz.underlying25 rfl (by kernel_rfl)) rfl ⟨rfl, bel⟩
set_option maxRecDepth 100000 in
set_option maxHeartbeats 4000000 in
theorem l4Set_10 (s : St) (n m : Int) (a p : Bool) (w : World) :
    Calls Tryz.prog 10 #[.agg #[.int .i64 s.sh, .int .i64 s.fl, .int .i64 s.cl, .bool s.w.a, .bool s.w.p, .int .i64 s.w.n, .bool s.h.a, .bool s.h.p, .int .i64 s.h.n, .int .i64 s.mn, .int .i64 s.mx, .int .i64 s.mt, .bool s.mr.a, .bool s.mr.p, .int .i64 s.mr.n, .int .i64 s.mb, .bool s.ml.a, .bool s.ml.p, .int .i64 s.ml.n, .int .i64 s.bo, .int .i64 s.pa, .int .i64 s.wh, .int .i64 s.al, .int .i64 s.lh, .int .i64 s.ri, .int .i64 s.dn], .string ⟨#[109, 97, 114, 103, 105, 110, 45, 108, 101, 102, 116]⟩, .int .i64 n, .agg #[.bool a, .bool p, .int .i64 m]] w fun e w' => e = .returned (.agg (setCells ({ s with ml := ⟨a, p, m⟩ }))) ∧ Below w.heap.size w w' := by
  go_enter Tryz.func10, Tryz.ntmps10
  iterate 15 go_step
  refine wp_gen3 ?_
  intro W bel l0 l1 l2
  have x0 : W.cell? ⟨w.heap.size + 1, 0, none⟩ = some (.bool a) := lies_cell l1 0
  have x1 : W.cell? ⟨w.heap.size + 1, 1, none⟩ = some (.bool p) := lies_cell l1 1
  have x2 : W.cell? ⟨w.heap.size + 1, 2, none⟩ = some (.int .i64 m) := lies_cell l1 2
  clear l1
  go_wp2_with (first
    | ((with_reducible show wpList _ _ _ (⟨none, Op.store 23 _ _, _, _, _, _⟩ :: _) _ _); refine wpList_putA rfl _ _ _ rfl rfl _ 16 26 [.bool a, .bool p, .int .i64 m] _ _ rfl rfl l0 rfl (by kernel_rfl) (by kernel_rfl) (by kernel_rfl) ?_; intro w9 p9 l9 n9; replace l0 := l9.trans (congrArg (fun c => some (Obj.cells c 25 (0, 0))) (show _ = setCells ({ s with ml := ⟨a, p, m⟩ }) by kernel_rfl)); replace bel := p9.below bel (by omega); replace l2 := p9.lies l2 (by omega); clear l9 n9 p9)
    | ((with_reducible show wpList _ _ _ (⟨some 91, Op.load 25 _, _, _, _, _⟩ :: _) _ _); refine wpList_load_row rfl 25 _ rfl w.heap.size rfl _ (setCells ({ s with ml := ⟨a, p, m⟩ })) _ _ l0 Tryz.underlying25 rfl (by kernel_rfl) ?_)
    | ((with_reducible show wpList _ _ _ (⟨none, Op.store 25 _ _, _, _, _, _⟩ :: _) _ _); refine wpList_putA rfl _ _ _ rfl rfl _ 0 26 (setCells ({ s with ml := ⟨a, p, m⟩ })).toList _ _ rfl rfl l2 rfl (by kernel_rfl) (by kernel_rfl) (by kernel_rfl) ?_; intro w9 p9 l9 n9; replace l2 := l9.trans (congrArg (fun c => some (Obj.cells c 25 (0, 0))) (show _ = setCells ({ s with ml := ⟨a, p, m⟩ }) by kernel_rfl)); replace bel := p9.below bel (by omega); clear l9 n9 p9))
  exact bodyPost_ret (v := .agg (setCells ({ s with ml := ⟨a, p, m⟩ }))) (results_cell_row Tryz.results10 _ _ _ _ (setCells ({ s with ml := ⟨a, p, m⟩ })) _ _ rfl l2 Tryz.underlying25 rfl (by kernel_rfl)) rfl ⟨rfl, bel⟩
set_option maxRecDepth 100000 in
set_option maxHeartbeats 4000000 in
theorem l4Set_11 (s : St) (n m : Int) (a p : Bool) (w : World) :
    Calls Tryz.prog 10 #[.agg #[.int .i64 s.sh, .int .i64 s.fl, .int .i64 s.cl, .bool s.w.a, .bool s.w.p, .int .i64 s.w.n, .bool s.h.a, .bool s.h.p, .int .i64 s.h.n, .int .i64 s.mn, .int .i64 s.mx, .int .i64 s.mt, .bool s.mr.a, .bool s.mr.p, .int .i64 s.mr.n, .int .i64 s.mb, .bool s.ml.a, .bool s.ml.p, .int .i64 s.ml.n, .int .i64 s.bo, .int .i64 s.pa, .int .i64 s.wh, .int .i64 s.al, .int .i64 s.lh, .int .i64 s.ri, .int .i64 s.dn], .string ⟨#[98, 111, 114, 100, 101, 114]⟩, .int .i64 n, .agg #[.bool a, .bool p, .int .i64 m]] w fun e w' => e = .returned (.agg (setCells ({ s with bo := m }))) ∧ Below w.heap.size w w' := by
  go_enter Tryz.func10, Tryz.ntmps10
  iterate 15 go_step
  refine wp_gen3 ?_
  intro W bel l0 l1 l2
  have x0 : W.cell? ⟨w.heap.size + 1, 0, none⟩ = some (.bool a) := lies_cell l1 0
  have x1 : W.cell? ⟨w.heap.size + 1, 1, none⟩ = some (.bool p) := lies_cell l1 1
  have x2 : W.cell? ⟨w.heap.size + 1, 2, none⟩ = some (.int .i64 m) := lies_cell l1 2
  clear l1
  go_wp2_with (first
    | ((with_reducible show wpList _ _ _ (⟨none, Op.store 3 _ _, _, _, _, _⟩ :: _) _ _); refine wpList_putA rfl _ _ _ rfl rfl _ 19 26 [.int .i64 m] _ _ rfl rfl l0 rfl (by kernel_rfl) (by kernel_rfl) (by kernel_rfl) ?_; intro w9 p9 l9 n9; replace l0 := l9.trans (congrArg (fun c => some (Obj.cells c 25 (0, 0))) (show _ = setCells ({ s with bo := m }) by kernel_rfl)); replace bel := p9.below bel (by omega); replace l2 := p9.lies l2 (by omega); clear l9 n9 p9)
    | ((with_reducible show wpList _ _ _ (⟨some 91, Op.load 25 _, _, _, _, _⟩ :: _) _ _); refine wpList_load_row rfl 25 _ rfl w.heap.size rfl _ (setCells ({ s with bo := m })) _ _ l0 Tryz.underlying25 rfl (by kernel_rfl) ?_)
    | ((with_reducible show wpList _ _ _ (⟨none, Op.store 25 _ _, _, _, _, _⟩ :: _) _ _); refine wpList_putA rfl _ _ _ rfl rfl _ 0 26 (setCells ({ s with bo := m })).toList _ _ rfl rfl l2 rfl (by kernel_rfl) (by kernel_rfl) (by kernel_rfl) ?_; intro w9 p9 l9 n9; replace l2 := l9.trans (congrArg (fun c => some (Obj.cells c 25 (0, 0))) (show _ = setCells ({ s with bo := m }) by kernel_rfl)); replace bel := p9.below bel (by omega); clear l9 n9 p9))
  exact bodyPost_ret (v := .agg (setCells ({ s with bo := m }))) (results_cell_row Tryz.results10 _ _ _ _ (setCells ({ s with bo := m })) _ _ rfl l2 Tryz.underlying25 rfl (by kernel_rfl)) rfl ⟨rfl, bel⟩
set_option maxRecDepth 100000 in
set_option maxHeartbeats 4000000 in
theorem l4Set_12 (s : St) (n m : Int) (a p : Bool) (w : World) :
    Calls Tryz.prog 10 #[.agg #[.int .i64 s.sh, .int .i64 s.fl, .int .i64 s.cl, .bool s.w.a, .bool s.w.p, .int .i64 s.w.n, .bool s.h.a, .bool s.h.p, .int .i64 s.h.n, .int .i64 s.mn, .int .i64 s.mx, .int .i64 s.mt, .bool s.mr.a, .bool s.mr.p, .int .i64 s.mr.n, .int .i64 s.mb, .bool s.ml.a, .bool s.ml.p, .int .i64 s.ml.n, .int .i64 s.bo, .int .i64 s.pa, .int .i64 s.wh, .int .i64 s.al, .int .i64 s.lh, .int .i64 s.ri, .int .i64 s.dn], .string ⟨#[112, 97, 100, 100, 105, 110, 103]⟩, .int .i64 n, .agg #[.bool a, .bool p, .int .i64 m]] w fun e w' => e = .returned (.agg (setCells ({ s with pa := m }))) ∧ Below w.heap.size w w' := by
  go_enter Tryz.func10, Tryz.ntmps10
  iterate 15 go_step
  refine wp_gen3 ?_
  intro W bel l0 l1 l2
  have x0 : W.cell? ⟨w.heap.size + 1, 0, none⟩ = some (.bool a) := lies_cell l1 0
  have x1 : W.cell? ⟨w.heap.size + 1, 1, none⟩ = some (.bool p) := lies_cell l1 1
  have x2 : W.cell? ⟨w.heap.size + 1, 2, none⟩ = some (.int .i64 m) := lies_cell l1 2
  clear l1
  go_wp2_with (first
    | ((with_reducible show wpList _ _ _ (⟨none, Op.store 3 _ _, _, _, _, _⟩ :: _) _ _); refine wpList_putA rfl _ _ _ rfl rfl _ 20 26 [.int .i64 m] _ _ rfl rfl l0 rfl (by kernel_rfl) (by kernel_rfl) (by kernel_rfl) ?_; intro w9 p9 l9 n9; replace l0 := l9.trans (congrArg (fun c => some (Obj.cells c 25 (0, 0))) (show _ = setCells ({ s with pa := m }) by kernel_rfl)); replace bel := p9.below bel (by omega); replace l2 := p9.lies l2 (by omega); clear l9 n9 p9)
    | ((with_reducible show wpList _ _ _ (⟨some 91, Op.load 25 _, _, _, _, _⟩ :: _) _ _); refine wpList_load_row rfl 25 _ rfl w.heap.size rfl _ (setCells ({ s with pa := m })) _ _ l0 Tryz.underlying25 rfl (by kernel_rfl) ?_)
    | ((with_reducible show wpList _ _ _ (⟨none, Op.store 25 _ _, _, _, _, _⟩ :: _) _ _); refine wpList_putA rfl _ _ _ rfl rfl _ 0 26 (setCells ({ s with pa := m })).toList _ _ rfl rfl l2 rfl (by kernel_rfl) (by kernel_rfl) (by kernel_rfl) ?_; intro w9 p9 l9 n9; replace l2 := l9.trans (congrArg (fun c => some (Obj.cells c 25 (0, 0))) (show _ = setCells ({ s with pa := m }) by kernel_rfl)); replace bel := p9.below bel (by omega); clear l9 n9 p9))
  exact bodyPost_ret (v := .agg (setCells ({ s with pa := m }))) (results_cell_row Tryz.results10 _ _ _ _ (setCells ({ s with pa := m })) _ _ rfl l2 Tryz.underlying25 rfl (by kernel_rfl)) rfl ⟨rfl, bel⟩
set_option maxRecDepth 100000 in
set_option maxHeartbeats 4000000 in
theorem l4Set_13 (s : St) (n m : Int) (a p : Bool) (w : World) :
    Calls Tryz.prog 10 #[.agg #[.int .i64 s.sh, .int .i64 s.fl, .int .i64 s.cl, .bool s.w.a, .bool s.w.p, .int .i64 s.w.n, .bool s.h.a, .bool s.h.p, .int .i64 s.h.n, .int .i64 s.mn, .int .i64 s.mx, .int .i64 s.mt, .bool s.mr.a, .bool s.mr.p, .int .i64 s.mr.n, .int .i64 s.mb, .bool s.ml.a, .bool s.ml.p, .int .i64 s.ml.n, .int .i64 s.bo, .int .i64 s.pa, .int .i64 s.wh, .int .i64 s.al, .int .i64 s.lh, .int .i64 s.ri, .int .i64 s.dn], .string ⟨#[119, 104, 105, 116, 101]⟩, .int .i64 n, .agg #[.bool a, .bool p, .int .i64 m]] w fun e w' => e = .returned (.agg (setCells ({ s with wh := n }))) ∧ Below w.heap.size w w' := by
  go_enter Tryz.func10, Tryz.ntmps10
  iterate 15 go_step
  refine wp_gen3 ?_
  intro W bel l0 l1 l2
  have x0 : W.cell? ⟨w.heap.size + 1, 0, none⟩ = some (.bool a) := lies_cell l1 0
  have x1 : W.cell? ⟨w.heap.size + 1, 1, none⟩ = some (.bool p) := lies_cell l1 1
  have x2 : W.cell? ⟨w.heap.size + 1, 2, none⟩ = some (.int .i64 m) := lies_cell l1 2
  clear l1
  go_wp2_with (first
    | ((with_reducible show wpList _ _ _ (⟨none, Op.store 3 _ _, _, _, _, _⟩ :: _) _ _); refine wpList_putA rfl _ _ _ rfl rfl _ 21 26 [.int .i64 n] _ _ rfl rfl l0 rfl (by kernel_rfl) (by kernel_rfl) (by kernel_rfl) ?_; intro w9 p9 l9 n9; replace l0 := l9.trans (congrArg (fun c => some (Obj.cells c 25 (0, 0))) (show _ = setCells ({ s with wh := n }) by kernel_rfl)); replace bel := p9.below bel (by omega); replace l2 := p9.lies l2 (by omega); clear l9 n9 p9)
    | ((with_reducible show wpList _ _ _ (⟨some 91, Op.load 25 _, _, _, _, _⟩ :: _) _ _); refine wpList_load_row rfl 25 _ rfl w.heap.size rfl _ (setCells ({ s with wh := n })) _ _ l0 Tryz.underlying25 rfl (by kernel_rfl) ?_)
    | ((with_reducible show wpList _ _ _ (⟨none, Op.store 25 _ _, _, _, _, _⟩ :: _) _ _); refine wpList_putA rfl _ _ _ rfl rfl _ 0 26 (setCells ({ s with wh := n })).toList _ _ rfl rfl l2 rfl (by kernel_rfl) (by kernel_rfl) (by kernel_rfl) ?_; intro w9 p9 l9 n9; replace l2 := l9.trans (congrArg (fun c => some (Obj.cells c 25 (0, 0))) (show _ = setCells ({ s with wh := n }) by kernel_rfl)); replace bel := p9.below bel (by omega); clear l9 n9 p9))
  exact bodyPost_ret (v := .agg (setCells ({ s with wh := n }))) (results_cell_row Tryz.results10 _ _ _ _ (setCells ({ s with wh := n })) _ _ rfl l2 Tryz.underlying25 rfl (by kernel_rfl)) rfl ⟨rfl, bel⟩
set_option maxRecDepth 100000 in
set_option maxHeartbeats 4000000 in
theorem l4Set_14 (s : St) (n m : Int) (a p : Bool) (w : World) :
    Calls Tryz.prog 10 #[.agg #[.int .i64 s.sh, .int .i64 s.fl, .int .i64 s.cl, .bool s.w.a, .bool s.w.p, .int .i64 s.w.n, .bool s.h.a, .bool s.h.p, .int .i64 s.h.n, .int .i64 s.mn, .int .i64 s.mx, .int .i64 s.mt, .bool s.mr.a, .bool s.mr.p, .int .i64 s.mr.n, .int .i64 s.mb, .bool s.ml.a, .bool s.ml.p, .int .i64 s.ml.n, .int .i64 s.bo, .int .i64 s.pa, .int .i64 s.wh, .int .i64 s.al, .int .i64 s.lh, .int .i64 s.ri, .int .i64 s.dn], .string ⟨#[97, 108, 105, 103, 110]⟩, .int .i64 n, .agg #[.bool a, .bool p, .int .i64 m]] w fun e w' => e = .returned (.agg (setCells ({ s with al := n }))) ∧ Below w.heap.size w w' := by
  go_enter Tryz.func10, Tryz.ntmps10
  iterate 15 go_step
  refine wp_gen3 ?_
  intro W bel l0 l1 l2
  have x0 : W.cell? ⟨w.heap.size + 1, 0, none⟩ = some (.bool a) := lies_cell l1 0
  have x1 : W.cell? ⟨w.heap.size + 1, 1, none⟩ = some (.bool p) := lies_cell l1 1
  have x2 : W.cell? ⟨w.heap.size + 1, 2, none⟩ = some (.int .i64 m) := lies_cell l1 2
  clear l1
  go_wp2_with (first
    | ((with_reducible show wpList _ _ _ (⟨none, Op.store 3 _ _, _, _, _, _⟩ :: _) _ _); refine wpList_putA rfl _ _ _ rfl rfl _ 22 26 [.int .i64 n] _ _ rfl rfl l0 rfl (by kernel_rfl) (by kernel_rfl) (by kernel_rfl) ?_; intro w9 p9 l9 n9; replace l0 := l9.trans (congrArg (fun c => some (Obj.cells c 25 (0, 0))) (show _ = setCells ({ s with al := n }) by kernel_rfl)); replace bel := p9.below bel (by omega); replace l2 := p9.lies l2 (by omega); clear l9 n9 p9)
    | ((with_reducible show wpList _ _ _ (⟨some 91, Op.load 25 _, _, _, _, _⟩ :: _) _ _); refine wpList_load_row rfl 25 _ rfl w.heap.size rfl _ (setCells ({ s with al := n })) _ _ l0 Tryz.underlying25 rfl (by kernel_rfl) ?_)
    | ((with_reducible show wpList _ _ _ (⟨none, Op.store 25 _ _, _, _, _, _⟩ :: _) _ _); refine wpList_putA rfl _ _ _ rfl rfl _ 0 26 (setCells ({ s with al := n })).toList _ _ rfl rfl l2 rfl (by kernel_rfl) (by kernel_rfl) (by kernel_rfl) ?_; intro w9 p9 l9 n9; replace l2 := l9.trans (congrArg (fun c => some (Obj.cells c 25 (0, 0))) (show _ = setCells ({ s with al := n }) by kernel_rfl)); replace bel := p9.below bel (by omega); clear l9 n9 p9))
  exact bodyPost_ret (v := .agg (setCells ({ s with al := n }))) (results_cell_row Tryz.results10 _ _ _ _ (setCells ({ s with al := n })) _ _ rfl l2 Tryz.underlying25 rfl (by kernel_rfl)) rfl ⟨rfl, bel⟩
set_option maxRecDepth 100000 in
set_option maxHeartbeats 4000000 in
theorem l4Set_15 (s : St) (n m : Int) (a p : Bool) (w : World) :
    Calls Tryz.prog 10 #[.agg #[.int .i64 s.sh, .int .i64 s.fl, .int .i64 s.cl, .bool s.w.a, .bool s.w.p, .int .i64 s.w.n, .bool s.h.a, .bool s.h.p, .int .i64 s.h.n, .int .i64 s.mn, .int .i64 s.mx, .int .i64 s.mt, .bool s.mr.a, .bool s.mr.p, .int .i64 s.mr.n, .int .i64 s.mb, .bool s.ml.a, .bool s.ml.p, .int .i64 s.ml.n, .int .i64 s.bo, .int .i64 s.pa, .int .i64 s.wh, .int .i64 s.al, .int .i64 s.lh, .int .i64 s.ri, .int .i64 s.dn], .string ⟨#[108, 105, 110, 101, 45, 104, 101, 105, 103, 104, 116]⟩, .int .i64 n, .agg #[.bool a, .bool p, .int .i64 m]] w fun e w' => e = .returned (.agg (setCells ({ s with lh := m }))) ∧ Below w.heap.size w w' := by
  go_enter Tryz.func10, Tryz.ntmps10
  iterate 15 go_step
  refine wp_gen3 ?_
  intro W bel l0 l1 l2
  have x0 : W.cell? ⟨w.heap.size + 1, 0, none⟩ = some (.bool a) := lies_cell l1 0
  have x1 : W.cell? ⟨w.heap.size + 1, 1, none⟩ = some (.bool p) := lies_cell l1 1
  have x2 : W.cell? ⟨w.heap.size + 1, 2, none⟩ = some (.int .i64 m) := lies_cell l1 2
  clear l1
  go_wp2_with (first
    | ((with_reducible show wpList _ _ _ (⟨none, Op.store 3 _ _, _, _, _, _⟩ :: _) _ _); refine wpList_putA rfl _ _ _ rfl rfl _ 23 26 [.int .i64 m] _ _ rfl rfl l0 rfl (by kernel_rfl) (by kernel_rfl) (by kernel_rfl) ?_; intro w9 p9 l9 n9; replace l0 := l9.trans (congrArg (fun c => some (Obj.cells c 25 (0, 0))) (show _ = setCells ({ s with lh := m }) by kernel_rfl)); replace bel := p9.below bel (by omega); replace l2 := p9.lies l2 (by omega); clear l9 n9 p9)
    | ((with_reducible show wpList _ _ _ (⟨some 91, Op.load 25 _, _, _, _, _⟩ :: _) _ _); refine wpList_load_row rfl 25 _ rfl w.heap.size rfl _ (setCells ({ s with lh := m })) _ _ l0 Tryz.underlying25 rfl (by kernel_rfl) ?_)
    | ((with_reducible show wpList _ _ _ (⟨none, Op.store 25 _ _, _, _, _, _⟩ :: _) _ _); refine wpList_putA rfl _ _ _ rfl rfl _ 0 26 (setCells ({ s with lh := m })).toList _ _ rfl rfl l2 rfl (by kernel_rfl) (by kernel_rfl) (by kernel_rfl) ?_; intro w9 p9 l9 n9; replace l2 := l9.trans (congrArg (fun c => some (Obj.cells c 25 (0, 0))) (show _ = setCells ({ s with lh := m }) by kernel_rfl)); replace bel := p9.below bel (by omega); clear l9 n9 p9))
  exact bodyPost_ret (v := .agg (setCells ({ s with lh := m }))) (results_cell_row Tryz.results10 _ _ _ _ (setCells ({ s with lh := m })) _ _ rfl l2 Tryz.underlying25 rfl (by kernel_rfl)) rfl ⟨rfl, bel⟩
set_option maxRecDepth 100000 in
set_option maxHeartbeats 4000000 in
theorem l4Set_16 (s : St) (n m : Int) (a p : Bool) (w : World) :
    Calls Tryz.prog 10 #[.agg #[.int .i64 s.sh, .int .i64 s.fl, .int .i64 s.cl, .bool s.w.a, .bool s.w.p, .int .i64 s.w.n, .bool s.h.a, .bool s.h.p, .int .i64 s.h.n, .int .i64 s.mn, .int .i64 s.mx, .int .i64 s.mt, .bool s.mr.a, .bool s.mr.p, .int .i64 s.mr.n, .int .i64 s.mb, .bool s.ml.a, .bool s.ml.p, .int .i64 s.ml.n, .int .i64 s.bo, .int .i64 s.pa, .int .i64 s.wh, .int .i64 s.al, .int .i64 s.lh, .int .i64 s.ri, .int .i64 s.dn], .string ⟨#[114, 105, 103, 104, 116]⟩, .int .i64 n, .agg #[.bool a, .bool p, .int .i64 m]] w fun e w' => e = .returned (.agg (setCells ({ s with ri := m }))) ∧ Below w.heap.size w w' := by
  go_enter Tryz.func10, Tryz.ntmps10
  iterate 15 go_step
  refine wp_gen3 ?_
  intro W bel l0 l1 l2
  have x0 : W.cell? ⟨w.heap.size + 1, 0, none⟩ = some (.bool a) := lies_cell l1 0
  have x1 : W.cell? ⟨w.heap.size + 1, 1, none⟩ = some (.bool p) := lies_cell l1 1
  have x2 : W.cell? ⟨w.heap.size + 1, 2, none⟩ = some (.int .i64 m) := lies_cell l1 2
  clear l1
  go_wp2_with (first
    | ((with_reducible show wpList _ _ _ (⟨none, Op.store 3 _ _, _, _, _, _⟩ :: _) _ _); refine wpList_putA rfl _ _ _ rfl rfl _ 24 26 [.int .i64 m] _ _ rfl rfl l0 rfl (by kernel_rfl) (by kernel_rfl) (by kernel_rfl) ?_; intro w9 p9 l9 n9; replace l0 := l9.trans (congrArg (fun c => some (Obj.cells c 25 (0, 0))) (show _ = setCells ({ s with ri := m }) by kernel_rfl)); replace bel := p9.below bel (by omega); replace l2 := p9.lies l2 (by omega); clear l9 n9 p9)
    | ((with_reducible show wpList _ _ _ (⟨some 91, Op.load 25 _, _, _, _, _⟩ :: _) _ _); refine wpList_load_row rfl 25 _ rfl w.heap.size rfl _ (setCells ({ s with ri := m })) _ _ l0 Tryz.underlying25 rfl (by kernel_rfl) ?_)
    | ((with_reducible show wpList _ _ _ (⟨none, Op.store 25 _ _, _, _, _, _⟩ :: _) _ _); refine wpList_putA rfl _ _ _ rfl rfl _ 0 26 (setCells ({ s with ri := m })).toList _ _ rfl rfl l2 rfl (by kernel_rfl) (by kernel_rfl) (by kernel_rfl) ?_; intro w9 p9 l9 n9; replace l2 := l9.trans (congrArg (fun c => some (Obj.cells c 25 (0, 0))) (show _ = setCells ({ s with ri := m }) by kernel_rfl)); replace bel := p9.below bel (by omega); clear l9 n9 p9))
  exact bodyPost_ret (v := .agg (setCells ({ s with ri := m }))) (results_cell_row Tryz.results10 _ _ _ _ (setCells ({ s with ri := m })) _ _ rfl l2 Tryz.underlying25 rfl (by kernel_rfl)) rfl ⟨rfl, bel⟩
set_option maxRecDepth 100000 in
set_option maxHeartbeats 4000000 in
theorem l4Set_17 (s : St) (n m : Int) (a p : Bool) (w : World) :
    Calls Tryz.prog 10 #[.agg #[.int .i64 s.sh, .int .i64 s.fl, .int .i64 s.cl, .bool s.w.a, .bool s.w.p, .int .i64 s.w.n, .bool s.h.a, .bool s.h.p, .int .i64 s.h.n, .int .i64 s.mn, .int .i64 s.mx, .int .i64 s.mt, .bool s.mr.a, .bool s.mr.p, .int .i64 s.mr.n, .int .i64 s.mb, .bool s.ml.a, .bool s.ml.p, .int .i64 s.ml.n, .int .i64 s.bo, .int .i64 s.pa, .int .i64 s.wh, .int .i64 s.al, .int .i64 s.lh, .int .i64 s.ri, .int .i64 s.dn], .string ⟨#[100, 111, 119, 110]⟩, .int .i64 n, .agg #[.bool a, .bool p, .int .i64 m]] w fun e w' => e = .returned (.agg (setCells ({ s with dn := m }))) ∧ Below w.heap.size w w' := by
  go_enter Tryz.func10, Tryz.ntmps10
  iterate 15 go_step
  refine wp_gen3 ?_
  intro W bel l0 l1 l2
  have x0 : W.cell? ⟨w.heap.size + 1, 0, none⟩ = some (.bool a) := lies_cell l1 0
  have x1 : W.cell? ⟨w.heap.size + 1, 1, none⟩ = some (.bool p) := lies_cell l1 1
  have x2 : W.cell? ⟨w.heap.size + 1, 2, none⟩ = some (.int .i64 m) := lies_cell l1 2
  clear l1
  go_wp2_with (first
    | ((with_reducible show wpList _ _ _ (⟨none, Op.store 3 _ _, _, _, _, _⟩ :: _) _ _); refine wpList_putA rfl _ _ _ rfl rfl _ 25 26 [.int .i64 m] _ _ rfl rfl l0 rfl (by kernel_rfl) (by kernel_rfl) (by kernel_rfl) ?_; intro w9 p9 l9 n9; replace l0 := l9.trans (congrArg (fun c => some (Obj.cells c 25 (0, 0))) (show _ = setCells ({ s with dn := m }) by kernel_rfl)); replace bel := p9.below bel (by omega); replace l2 := p9.lies l2 (by omega); clear l9 n9 p9)
    | ((with_reducible show wpList _ _ _ (⟨some 91, Op.load 25 _, _, _, _, _⟩ :: _) _ _); refine wpList_load_row rfl 25 _ rfl w.heap.size rfl _ (setCells ({ s with dn := m })) _ _ l0 Tryz.underlying25 rfl (by kernel_rfl) ?_)
    | ((with_reducible show wpList _ _ _ (⟨none, Op.store 25 _ _, _, _, _, _⟩ :: _) _ _); refine wpList_putA rfl _ _ _ rfl rfl _ 0 26 (setCells ({ s with dn := m })).toList _ _ rfl rfl l2 rfl (by kernel_rfl) (by kernel_rfl) (by kernel_rfl) ?_; intro w9 p9 l9 n9; replace l2 := l9.trans (congrArg (fun c => some (Obj.cells c 25 (0, 0))) (show _ = setCells ({ s with dn := m }) by kernel_rfl)); replace bel := p9.below bel (by omega); clear l9 n9 p9))
  exact bodyPost_ret (v := .agg (setCells ({ s with dn := m }))) (results_cell_row Tryz.results10 _ _ _ _ (setCells ({ s with dn := m })) _ _ rfl l2 Tryz.underlying25 rfl (by kernel_rfl)) rfl ⟨rfl, bel⟩
end Go.Proofs.YtdgagjnkbmckoaaGreatDoor
