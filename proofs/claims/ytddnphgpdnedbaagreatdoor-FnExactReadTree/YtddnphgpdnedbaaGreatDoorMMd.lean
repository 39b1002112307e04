/-
  The model's l4Set: a style with one thing set by its name, for each of the eighteen names.
  The model's look-ups at a name that is none of the eighteen.
  The model's l4Value at a name that has no words.
  The model's l4Value at a name that has words.
  The model's reading of one thing: what it answers at a value that is told, and that it answers at any.
  The model's ReadStyle: the style that has this text, if there is one.
-/
import Derived.Test.YtddnphgpdnedbaaGreatDoorSty
import Derived.Test.YtddnphgpdnedbaaGreatDoorMGh
import Derived.Test.YtddnphgpdnedbaaGreatDoorMTg
import Derived.Test.YtddnphgpdnedbaaGreatDoorMRe
namespace Go.Proofs.YtddnphgpdnedbaaGreatDoor
open Go.ChangeShapes Go.WideShapes Go.ChangeAt Go.RowKit
set_option linter.unusedVariables false

def setCells (s : St) : Array Value := #[.int .i64 s.sh, .int .i64 s.fl, .int .i64 s.cl, .bool s.w.a, .bool s.w.p, .int .i64 s.w.n, .bool s.h.a, .bool s.h.p, .int .i64 s.h.n, .int .i64 s.mn, .int .i64 s.mx, .int .i64 s.mt, .bool s.mr.a, .bool s.mr.p, .int .i64 s.mr.n, .int .i64 s.mb, .bool s.ml.a, .bool s.ml.p, .int .i64 s.ml.n, .int .i64 s.bo, .int .i64 s.pa, .int .i64 s.wh, .int .i64 s.al, .int .i64 s.lh, .int .i64 s.ri, .int .i64 s.dn]
set_option maxRecDepth 100000 in
set_option maxHeartbeats 4000000 in
theorem l4Set_0 (s : St) (n m : Int) (a p : Bool) (w : World) :
    Calls Tryz.prog 18 #[.agg #[.int .i64 s.sh, .int .i64 s.fl, .int .i64 s.cl, .bool s.w.a, .bool s.w.p, .int .i64 s.w.n, .bool s.h.a, .bool s.h.p, .int .i64 s.h.n, .int .i64 s.mn, .int .i64 s.mx, .int .i64 s.mt, .bool s.mr.a, .bool s.mr.p, .int .i64 s.mr.n, .int .i64 s.mb, .bool s.ml.a, .bool s.ml.p, .int .i64 s.ml.n, .int .i64 s.bo, .int .i64 s.pa, .int .i64 s.wh, .int .i64 s.al, .int .i64 s.lh, .int .i64 s.ri, .int .i64 s.dn], .string ⟨#[115, 104, 111, 119]⟩, .int .i64 n, .agg #[.bool a, .bool p, .int .i64 m]] w fun e w' => e = .returned (.agg (setCells ({ s with sh := n }))) ∧ Below w.heap.size w w' := by
  go_enter Tryz.func18, Tryz.ntmps18
  iterate 15 go_step
  refine wp_gen3 ?_
  intro W bel l0 l1 l2
  have x0 : W.cell? ⟨w.heap.size + 1, 0, none⟩ = some (.bool a) := lies_cell l1 0
  have x1 : W.cell? ⟨w.heap.size + 1, 1, none⟩ = some (.bool p) := lies_cell l1 1
  have x2 : W.cell? ⟨w.heap.size + 1, 2, none⟩ = some (.int .i64 m) := lies_cell l1 2
  clear l1
  go_wp2_with (first
    | ((with_reducible show wpList _ _ _ (⟨none, Op.store 3 _ _, _, _, _, _⟩ :: _) _ _); refine wpList_putA rfl _ _ _ rfl rfl _ 0 26 [.int .i64 n] _ _ rfl rfl l0 rfl (by kernel_rfl) (by kernel_rfl) (by kernel_rfl) ?_; intro w9 p9 l9 n9; replace l0 := l9.trans (congrArg (fun c => some (Obj.cells c 34 (0, 0))) (show _ = setCells ({ s with sh := n }) by kernel_rfl)); replace bel := p9.below bel (by omega); replace l2 := p9.lies l2 (by omega); clear l9 n9 p9)
    | ((with_reducible show wpList _ _ _ (⟨some 91, Op.load 34 _, _, _, _, _⟩ :: _) _ _); refine wpList_load_row rfl 34 _ rfl w.heap.size rfl _ (setCells ({ s with sh := n })) _ _ l0 Tryz.underlying34 rfl (by kernel_rfl) ?_)
    | ((with_reducible show wpList _ _ _ (⟨none, Op.store 34 _ _, _, _, _, _⟩ :: _) _ _); refine wpList_putA rfl _ _ _ rfl rfl _ 0 26 (setCells ({ s with sh := n })).toList _ _ rfl rfl l2 rfl (by kernel_rfl) (by kernel_rfl) (by kernel_rfl) ?_; intro w9 p9 l9 n9; replace l2 := l9.trans (congrArg (fun c => some (Obj.cells c 34 (0, 0))) (show _ = setCells ({ s with sh := n }) by kernel_rfl)); replace bel := p9.below bel (by omega); clear l9 n9 p9))
  exact bodyPost_ret (v := .agg (setCells ({ s with sh := n }))) (results_cell_row Tryz.results18 _ _ _ _ (setCells ({ s with sh := n })) _ _ rfl l2 Tryz.underlying34 rfl (by kernel_rfl)) rfl ⟨rfl, bel⟩
set_option maxRecDepth 100000 in
set_option maxHeartbeats 4000000 in
theorem l4Set_1 (s : St) (n m : Int) (a p : Bool) (w : World) :
    Calls Tryz.prog 18 #[.agg #[.int .i64 s.sh, .int .i64 s.fl, .int .i64 s.cl, .bool s.w.a, .bool s.w.p, .int .i64 s.w.n, .bool s.h.a, .bool s.h.p, .int .i64 s.h.n, .int .i64 s.mn, .int .i64 s.mx, .int .i64 s.mt, .bool s.mr.a, .bool s.mr.p, .int .i64 s.mr.n, .int .i64 s.mb, .bool s.ml.a, .bool s.ml.p, .int .i64 s.ml.n, .int .i64 s.bo, .int .i64 s.pa, .int .i64 s.wh, .int .i64 s.al, .int .i64 s.lh, .int .i64 s.ri, .int .i64 s.dn], .string ⟨#[102, 108, 111, 97, 116]⟩, .int .i64 n, .agg #[.bool a, .bool p, .int .i64 m]] w fun e w' => e = .returned (.agg (setCells ({ s with fl := n }))) ∧ Below w.heap.size w w' := by
  go_enter Tryz.func18, Tryz.ntmps18
  iterate 15 go_step
  refine wp_gen3 ?_
  intro W bel l0 l1 l2
  have x0 : W.cell? ⟨w.heap.size + 1, 0, none⟩ = some (.bool a) := lies_cell l1 0
  have x1 : W.cell? ⟨w.heap.size + 1, 1, none⟩ = some (.bool p) := lies_cell l1 1
  have x2 : W.cell? ⟨w.heap.size + 1, 2, none⟩ = some (.int .i64 m) := lies_cell l1 2
  clear l1
  go_wp2_with (first
    | ((with_reducible show wpList _ _ _ (⟨none, Op.store 3 _ _, _, _, _, _⟩ :: _) _ _); refine wpList_putA rfl _ _ _ rfl rfl _ 1 26 [.int .i64 n] _ _ rfl rfl l0 rfl (by kernel_rfl) (by kernel_rfl) (by kernel_rfl) ?_; intro w9 p9 l9 n9; replace l0 := l9.trans (congrArg (fun c => some (Obj.cells c 34 (0, 0))) (show _ = setCells ({ s with fl := n }) by kernel_rfl)); replace bel := p9.below bel (by omega); replace l2 := p9.lies l2 (by omega); clear l9 n9 p9)
    | ((with_reducible show wpList _ _ _ (⟨some 91, Op.load 34 _, _, _, _, _⟩ :: _) _ _); refine wpList_load_row rfl 34 _ rfl w.heap.size rfl _ (setCells ({ s with fl := n })) _ _ l0 Tryz.underlying34 rfl (by kernel_rfl) ?_)
    | ((with_reducible show wpList _ _ _ (⟨none, Op.store 34 _ _, _, _, _, _⟩ :: _) _ _); refine wpList_putA rfl _ _ _ rfl rfl _ 0 26 (setCells ({ s with fl := n })).toList _ _ rfl rfl l2 rfl (by kernel_rfl) (by kernel_rfl) (by kernel_rfl) ?_; intro w9 p9 l9 n9; replace l2 := l9.trans (congrArg (fun c => some (Obj.cells c 34 (0, 0))) (show _ = setCells ({ s with fl := n }) by kernel_rfl)); replace bel := p9.below bel (by omega); clear l9 n9 p9))
  exact bodyPost_ret (v := .agg (setCells ({ s with fl := n }))) (results_cell_row Tryz.results18 _ _ _ _ (setCells ({ s with fl := n })) _ _ rfl l2 Tryz.underlying34 rfl (by kernel_rfl)) rfl ⟨rfl, bel⟩
set_option maxRecDepth 100000 in
set_option maxHeartbeats 4000000 in
theorem l4Set_2 (s : St) (n m : Int) (a p : Bool) (w : World) :
    Calls Tryz.prog 18 #[.agg #[.int .i64 s.sh, .int .i64 s.fl, .int .i64 s.cl, .bool s.w.a, .bool s.w.p, .int .i64 s.w.n, .bool s.h.a, .bool s.h.p, .int .i64 s.h.n, .int .i64 s.mn, .int .i64 s.mx, .int .i64 s.mt, .bool s.mr.a, .bool s.mr.p, .int .i64 s.mr.n, .int .i64 s.mb, .bool s.ml.a, .bool s.ml.p, .int .i64 s.ml.n, .int .i64 s.bo, .int .i64 s.pa, .int .i64 s.wh, .int .i64 s.al, .int .i64 s.lh, .int .i64 s.ri, .int .i64 s.dn], .string ⟨#[99, 108, 101, 97, 114]⟩, .int .i64 n, .agg #[.bool a, .bool p, .int .i64 m]] w fun e w' => e = .returned (.agg (setCells ({ s with cl := n }))) ∧ Below w.heap.size w w' := by
  go_enter Tryz.func18, Tryz.ntmps18
  iterate 15 go_step
  refine wp_gen3 ?_
  intro W bel l0 l1 l2
  have x0 : W.cell? ⟨w.heap.size + 1, 0, none⟩ = some (.bool a) := lies_cell l1 0
  have x1 : W.cell? ⟨w.heap.size + 1, 1, none⟩ = some (.bool p) := lies_cell l1 1
  have x2 : W.cell? ⟨w.heap.size + 1, 2, none⟩ = some (.int .i64 m) := lies_cell l1 2
  clear l1
  go_wp2_with (first
    | ((with_reducible show wpList _ _ _ (⟨none, Op.store 3 _ _, _, _, _, _⟩ :: _) _ _); refine wpList_putA rfl _ _ _ rfl rfl _ 2 26 [.int .i64 n] _ _ rfl rfl l0 rfl (by kernel_rfl) (by kernel_rfl) (by kernel_rfl) ?_; intro w9 p9 l9 n9; replace l0 := l9.trans (congrArg (fun c => some (Obj.cells c 34 (0, 0))) (show _ = setCells ({ s with cl := n }) by kernel_rfl)); replace bel := p9.below bel (by omega); replace l2 := p9.lies l2 (by omega); clear l9 n9 p9)
    | ((with_reducible show wpList _ _ _ (⟨some 91, Op.load 34 _, _, _, _, _⟩ :: _) _ _); refine wpList_load_row rfl 34 _ rfl w.heap.size rfl _ (setCells ({ s with cl := n })) _ _ l0 Tryz.underlying34 rfl (by kernel_rfl) ?_)
    | ((with_reducible show wpList _ _ _ (⟨none, Op.store 34 _ _, _, _, _, _⟩ :: _) _ _); refine wpList_putA rfl _ _ _ rfl rfl _ 0 26 (setCells ({ s with cl := n })).toList _ _ rfl rfl l2 rfl (by kernel_rfl) (by kernel_rfl) (by kernel_rfl) ?_; intro w9 p9 l9 n9; replace l2 := l9.trans (congrArg (fun c => some (Obj.cells c 34 (0, 0))) (show _ = setCells ({ s with cl := n }) by kernel_rfl)); replace bel := p9.below bel (by omega); clear l9 n9 p9))
  exact bodyPost_ret (v := .agg (setCells ({ s with cl := n }))) (results_cell_row Tryz.results18 _ _ _ _ (setCells ({ s with cl := n })) _ _ rfl l2 Tryz.underlying34 rfl (by kernel_rfl)) rfl ⟨rfl, bel⟩
set_option maxRecDepth 100000 in
set_option maxHeartbeats 4000000 in
theorem l4Set_3 (s : St) (n m : Int) (a p : Bool) (w : World) :
    Calls Tryz.prog 18 #[.agg #[.int .i64 s.sh, .int .i64 s.fl, .int .i64 s.cl, .bool s.w.a, .bool s.w.p, .int .i64 s.w.n, .bool s.h.a, .bool s.h.p, .int .i64 s.h.n, .int .i64 s.mn, .int .i64 s.mx, .int .i64 s.mt, .bool s.mr.a, .bool s.mr.p, .int .i64 s.mr.n, .int .i64 s.mb, .bool s.ml.a, .bool s.ml.p, .int .i64 s.ml.n, .int .i64 s.bo, .int .i64 s.pa, .int .i64 s.wh, .int .i64 s.al, .int .i64 s.lh, .int .i64 s.ri, .int .i64 s.dn], .string ⟨#[119, 105, 100, 116, 104]⟩, .int .i64 n, .agg #[.bool a, .bool p, .int .i64 m]] w fun e w' => e = .returned (.agg (setCells ({ s with w := ⟨a, p, m⟩ }))) ∧ Below w.heap.size w w' := by
  go_enter Tryz.func18, Tryz.ntmps18
  iterate 15 go_step
  refine wp_gen3 ?_
  intro W bel l0 l1 l2
  have x0 : W.cell? ⟨w.heap.size + 1, 0, none⟩ = some (.bool a) := lies_cell l1 0
  have x1 : W.cell? ⟨w.heap.size + 1, 1, none⟩ = some (.bool p) := lies_cell l1 1
  have x2 : W.cell? ⟨w.heap.size + 1, 2, none⟩ = some (.int .i64 m) := lies_cell l1 2
  clear l1
  go_wp2_with (first
    | ((with_reducible show wpList _ _ _ (⟨none, Op.store 32 _ _, _, _, _, _⟩ :: _) _ _); refine wpList_putA rfl _ _ _ rfl rfl _ 3 26 [.bool a, .bool p, .int .i64 m] _ _ rfl rfl l0 rfl (by kernel_rfl) (by kernel_rfl) (by kernel_rfl) ?_; intro w9 p9 l9 n9; replace l0 := l9.trans (congrArg (fun c => some (Obj.cells c 34 (0, 0))) (show _ = setCells ({ s with w := ⟨a, p, m⟩ }) by kernel_rfl)); replace bel := p9.below bel (by omega); replace l2 := p9.lies l2 (by omega); clear l9 n9 p9)
    | ((with_reducible show wpList _ _ _ (⟨some 91, Op.load 34 _, _, _, _, _⟩ :: _) _ _); refine wpList_load_row rfl 34 _ rfl w.heap.size rfl _ (setCells ({ s with w := ⟨a, p, m⟩ })) _ _ l0 Tryz.underlying34 rfl (by kernel_rfl) ?_)
    | ((with_reducible show wpList _ _ _ (⟨none, Op.store 34 _ _, _, _, _, _⟩ :: _) _ _); refine wpList_putA rfl _ _ _ rfl rfl _ 0 26 (setCells ({ s with w := ⟨a, p, m⟩ })).toList _ _ rfl rfl l2 rfl (by kernel_rfl) (by kernel_rfl) (by kernel_rfl) ?_; intro w9 p9 l9 n9; replace l2 := l9.trans (congrArg (fun c => some (Obj.cells c 34 (0, 0))) (show _ = setCells ({ s with w := ⟨a, p, m⟩ }) by kernel_rfl)); replace bel := p9.below bel (by omega); clear l9 n9 p9))
  exact bodyPost_ret (v := .agg (setCells ({ s with w := ⟨a, p, m⟩ }))) (results_cell_row Tryz.results18 _ _ _ _ (setCells ({ s with w := ⟨a, p, m⟩ })) _ _ rfl l2 Tryz.underlying34 rfl (by kernel_rfl)) rfl ⟨rfl, bel⟩
set_option maxRecDepth 100000 in
set_option maxHeartbeats 4000000 in
theorem l4Set_4 (s : St) (n m : Int) (a p : Bool) (w : World) :
    Calls Tryz.prog 18 #[.agg #[.int .i64 s.sh, .int .i64 s.fl, .int .i64 s.cl, .bool s.w.a, .bool s.w.p, .int .i64 s.w.n, .bool s.h.a, .bool s.h.p, .int .i64 s.h.n, .int .i64 s.mn, .int .i64 s.mx, .int .i64 s.mt, .bool s.mr.a, .bool s.mr.p, .int .i64 s.mr.n, .int .i64 s.mb, .bool s.ml.a, .bool s.ml.p, .int .i64 s.ml.n, .int .i64 s.bo, .int .i64 s.pa, .int .i64 s.wh, .int .i64 s.al, .int .i64 s.lh, .int .i64 s.ri, .int .i64 s.dn], .string ⟨#[104, 101, 105, 103, 104, 116]⟩, .int .i64 n, .agg #[.bool a, .bool p, .int .i64 m]] w fun e w' => e = .returned (.agg (setCells ({ s with h := ⟨a, p, m⟩ }))) ∧ Below w.heap.size w w' := by
  go_enter Tryz.func18, Tryz.ntmps18
  iterate 15 go_step
  refine wp_gen3 ?_
  intro W bel l0 l1 l2
  have x0 : W.cell? ⟨w.heap.size + 1, 0, none⟩ = some (.bool a) := lies_cell l1 0
  have x1 : W.cell? ⟨w.heap.size + 1, 1, none⟩ = some (.bool p) := lies_cell l1 1
  have x2 : W.cell? ⟨w.heap.size + 1, 2, none⟩ = some (.int .i64 m) := lies_cell l1 2
  clear l1
  go_wp2_with (first
    | ((with_reducible show wpList _ _ _ (⟨none, Op.store 32 _ _, _, _, _, _⟩ :: _) _ _); refine wpList_putA rfl _ _ _ rfl rfl _ 6 26 [.bool a, .bool p, .int .i64 m] _ _ rfl rfl l0 rfl (by kernel_rfl) (by kernel_rfl) (by kernel_rfl) ?_; intro w9 p9 l9 n9; replace l0 := l9.trans (congrArg (fun c => some (Obj.cells c 34 (0, 0))) (show _ = setCells ({ s with h := ⟨a, p, m⟩ }) by kernel_rfl)); replace bel := p9.below bel (by omega); replace l2 := p9.lies l2 (by omega); clear l9 n9 p9)
    | ((with_reducible show wpList _ _ _ (⟨some 91, Op.load 34 _, _, _, _, _⟩ :: _) _ _); refine wpList_load_row rfl 34 _ rfl w.heap.size rfl _ (setCells ({ s with h := ⟨a, p, m⟩ })) _ _ l0 Tryz.underlying34 rfl (by kernel_rfl) ?_)
    | ((with_reducible show wpList _ _ _ (⟨none, Op.store 34 _ _, _, _, _, _⟩ :: _) _ _); refine wpList_putA rfl _ _ _ rfl rfl _ 0 26 (setCells ({ s with h := ⟨a, p, m⟩ })).toList _ _ rfl rfl l2 rfl (by kernel_rfl) (by kernel_rfl) (by kernel_rfl) ?_; intro w9 p9 l9 n9; replace l2 := l9.trans (congrArg (fun c => some (Obj.cells c 34 (0, 0))) (show _ = setCells ({ s with h := ⟨a, p, m⟩ }) by kernel_rfl)); replace bel := p9.below bel (by omega); clear l9 n9 p9))
  exact bodyPost_ret (v := .agg (setCells ({ s with h := ⟨a, p, m⟩ }))) (results_cell_row Tryz.results18 _ _ _ _ (setCells ({ s with h := ⟨a, p, m⟩ })) _ _ rfl l2 Tryz.underlying34 rfl (by kernel_rfl)) rfl ⟨rfl, bel⟩
set_option maxRecDepth 100000 in
set_option maxHeartbeats 4000000 in
theorem l4Set_5 (s : St) (n m : Int) (a p : Bool) (w : World) :
    Calls Tryz.prog 18 #[.agg #[.int .i64 s.sh, .int .i64 s.fl, .int .i64 s.cl, .bool s.w.a, .bool s.w.p, .int .i64 s.w.n, .bool s.h.a, .bool s.h.p, .int .i64 s.h.n, .int .i64 s.mn, .int .i64 s.mx, .int .i64 s.mt, .bool s.mr.a, .bool s.mr.p, .int .i64 s.mr.n, .int .i64 s.mb, .bool s.ml.a, .bool s.ml.p, .int .i64 s.ml.n, .int .i64 s.bo, .int .i64 s.pa, .int .i64 s.wh, .int .i64 s.al, .int .i64 s.lh, .int .i64 s.ri, .int .i64 s.dn], .string ⟨#[109, 105, 110, 45, 119, 105, 100, 116, 104]⟩, .int .i64 n, .agg #[.bool a, .bool p, .int .i64 m]] w fun e w' => e = .returned (.agg (setCells ({ s with mn := m }))) ∧ Below w.heap.size w w' := by
  go_enter Tryz.func18, Tryz.ntmps18
  iterate 15 go_step
  refine wp_gen3 ?_
  intro W bel l0 l1 l2
  have x0 : W.cell? ⟨w.heap.size + 1, 0, none⟩ = some (.bool a) := lies_cell l1 0
  have x1 : W.cell? ⟨w.heap.size + 1, 1, none⟩ = some (.bool p) := lies_cell l1 1
  have x2 : W.cell? ⟨w.heap.size + 1, 2, none⟩ = some (.int .i64 m) := lies_cell l1 2
  clear l1
  go_wp2_with (first
    | ((with_reducible show wpList _ _ _ (⟨none, Op.store 3 _ _, _, _, _, _⟩ :: _) _ _); refine wpList_putA rfl _ _ _ rfl rfl _ 9 26 [.int .i64 m] _ _ rfl rfl l0 rfl (by kernel_rfl) (by kernel_rfl) (by kernel_rfl) ?_; intro w9 p9 l9 n9; replace l0 := l9.trans (congrArg (fun c => some (Obj.cells c 34 (0, 0))) (show _ = setCells ({ s with mn := m }) by kernel_rfl)); replace bel := p9.below bel (by omega); replace l2 := p9.lies l2 (by omega); clear l9 n9 p9)
    | ((with_reducible show wpList _ _ _ (⟨some 91, Op.load 34 _, _, _, _, _⟩ :: _) _ _); refine wpList_load_row rfl 34 _ rfl w.heap.size rfl _ (setCells ({ s with mn := m })) _ _ l0 Tryz.underlying34 rfl (by kernel_rfl) ?_)
    | ((with_reducible show wpList _ _ _ (⟨none, Op.store 34 _ _, _, _, _, _⟩ :: _) _ _); refine wpList_putA rfl _ _ _ rfl rfl _ 0 26 (setCells ({ s with mn := m })).toList _ _ rfl rfl l2 rfl (by kernel_rfl) (by kernel_rfl) (by kernel_rfl) ?_; intro w9 p9 l9 n9; replace l2 := l9.trans (congrArg (fun c => some (Obj.cells c 34 (0, 0))) (show _ = setCells ({ s with mn := m }) by kernel_rfl)); replace bel := p9.below bel (by omega); clear l9 n9 p9))
  exact bodyPost_ret (v := .agg (setCells ({ s with mn := m }))) (results_cell_row Tryz.results18 _ _ _ _ (setCells ({ s with mn := m })) _ _ rfl l2 Tryz.underlying34 rfl (by kernel_rfl)) rfl ⟨rfl, bel⟩
set_option maxRecDepth 100000 in
set_option maxHeartbeats 4000000 in
theorem l4Set_6 (s : St) (n m : Int) (a p : Bool) (w : World) :
    Calls Tryz.prog 18 #[.agg #[.int .i64 s.sh, .int .i64 s.fl, .int .i64 s.cl, .bool s.w.a, .bool s.w.p, .int .i64 s.w.n, .bool s.h.a, .bool s.h.p, .int .i64 s.h.n, .int .i64 s.mn, .int .i64 s.mx, .int .i64 s.mt, .bool s.mr.a, .bool s.mr.p, .int .i64 s.mr.n, .int .i64 s.mb, .bool s.ml.a, .bool s.ml.p, .int .i64 s.ml.n, .int .i64 s.bo, .int .i64 s.pa, .int .i64 s.wh, .int .i64 s.al, .int .i64 s.lh, .int .i64 s.ri, .int .i64 s.dn], .string ⟨#[109, 97, 120, 45, 119, 105, 100, 116, 104]⟩, .int .i64 n, .agg #[.bool a, .bool p, .int .i64 m]] w fun e w' => e = .returned (.agg (setCells ({ s with mx := m }))) ∧ Below w.heap.size w w' := by
  go_enter Tryz.func18, Tryz.ntmps18
  iterate 15 go_step
  refine wp_gen3 ?_
  intro W bel l0 l1 l2
  have x0 : W.cell? ⟨w.heap.size + 1, 0, none⟩ = some (.bool a) := lies_cell l1 0
  have x1 : W.cell? ⟨w.heap.size + 1, 1, none⟩ = some (.bool p) := lies_cell l1 1
  have x2 : W.cell? ⟨w.heap.size + 1, 2, none⟩ = some (.int .i64 m) := lies_cell l1 2
  clear l1
  go_wp2_with (first
    | ((with_reducible show wpList _ _ _ (⟨none, Op.store 3 _ _, _, _, _, _⟩ :: _) _ _); refine wpList_putA rfl _ _ _ rfl rfl _ 10 26 [.int .i64 m] _ _ rfl rfl l0 rfl (by kernel_rfl) (by kernel_rfl) (by kernel_rfl) ?_; intro w9 p9 l9 n9; replace l0 := l9.trans (congrArg (fun c => some (Obj.cells c 34 (0, 0))) (show _ = setCells ({ s with mx := m }) by kernel_rfl)); replace bel := p9.below bel (by omega); replace l2 := p9.lies l2 (by omega); clear l9 n9 p9)
    | ((with_reducible show wpList _ _ _ (⟨some 91, Op.load 34 _, _, _, _, _⟩ :: _) _ _); refine wpList_load_row rfl 34 _ rfl w.heap.size rfl _ (setCells ({ s with mx := m })) _ _ l0 Tryz.underlying34 rfl (by kernel_rfl) ?_)
    | ((with_reducible show wpList _ _ _ (⟨none, Op.store 34 _ _, _, _, _, _⟩ :: _) _ _); refine wpList_putA rfl _ _ _ rfl rfl _ 0 26 (setCells ({ s with mx := m })).toList _ _ rfl rfl l2 rfl (by kernel_rfl) (by kernel_rfl) (by kernel_rfl) ?_; intro w9 p9 l9 n9; replace l2 := l9.trans (congrArg (fun c => some (Obj.cells c 34 (0, 0))) (show _ = setCells ({ s with mx := m }) by kernel_rfl)); replace bel := p9.below bel (by omega); clear l9 n9 p9))
  exact bodyPost_ret (v := .agg (setCells ({ s with mx := m }))) (results_cell_row Tryz.results18 _ _ _ _ (setCells ({ s with mx := m })) _ _ rfl l2 Tryz.underlying34 rfl (by kernel_rfl)) rfl ⟨rfl, bel⟩
set_option maxRecDepth 100000 in
set_option maxHeartbeats 4000000 in
theorem l4Set_7 (s : St) (n m : Int) (a p : Bool) (w : World) :
    Calls Tryz.prog 18 #[.agg #[.int .i64 s.sh, .int .i64 s.fl, .int .i64 s.cl, .bool s.w.a, .bool s.w.p, .int .i64 s.w.n, .bool s.h.a, .bool s.h.p, .int .i64 s.h.n, .int .i64 s.mn, .int .i64 s.mx, .int .i64 s.mt, .bool s.mr.a, .bool s.mr.p, .int .i64 s.mr.n, .int .i64 s.mb, .bool s.ml.a, .bool s.ml.p, .int .i64 s.ml.n, .int .i64 s.bo, .int .i64 s.pa, .int .i64 s.wh, .int .i64 s.al, .int .i64 s.lh, .int .i64 s.ri, .int .i64 s.dn], .string ⟨#[109, 97, 114, 103, 105, 110, 45, 116, 111, 112]⟩, .int .i64 n, .agg #[.bool a, .bool p, .int .i64 m]] w fun e w' => e = .returned (.agg (setCells ({ s with mt := m }))) ∧ Below w.heap.size w w' := by
  go_enter Tryz.func18, Tryz.ntmps18
  iterate 15 go_step
  refine wp_gen3 ?_
  intro W bel l0 l1 l2
  have x0 : W.cell? ⟨w.heap.size + 1, 0, none⟩ = some (.bool a) := lies_cell l1 0
  have x1 : W.cell? ⟨w.heap.size + 1, 1, none⟩ = some (.bool p) := lies_cell l1 1
  have x2 : W.cell? ⟨w.heap.size + 1, 2, none⟩ = some (.int .i64 m) := lies_cell l1 2
  clear l1
  go_wp2_with (first
    | ((with_reducible show wpList _ _ _ (⟨none, Op.store 3 _ _, _, _, _, _⟩ :: _) _ _); refine wpList_putA rfl _ _ _ rfl rfl _ 11 26 [.int .i64 m] _ _ rfl rfl l0 rfl (by kernel_rfl) (by kernel_rfl) (by kernel_rfl) ?_; intro w9 p9 l9 n9; replace l0 := l9.trans (congrArg (fun c => some (Obj.cells c 34 (0, 0))) (show _ = setCells ({ s with mt := m }) by kernel_rfl)); replace bel := p9.below bel (by omega); replace l2 := p9.lies l2 (by omega); clear l9 n9 p9)
    | ((with_reducible show wpList _ _ _ (⟨some 91, Op.load 34 _, _, _, _, _⟩ :: _) _ _); refine wpList_load_row rfl 34 _ rfl w.heap.size rfl _ (setCells ({ s with mt := m })) _ _ l0 Tryz.underlying34 rfl (by kernel_rfl) ?_)
    | ((with_reducible show wpList _ _ _ (⟨none, Op.store 34 _ _, _, _, _, _⟩ :: _) _ _); refine wpList_putA rfl _ _ _ rfl rfl _ 0 26 (setCells ({ s with mt := m })).toList _ _ rfl rfl l2 rfl (by kernel_rfl) (by kernel_rfl) (by kernel_rfl) ?_; intro w9 p9 l9 n9; replace l2 := l9.trans (congrArg (fun c => some (Obj.cells c 34 (0, 0))) (show _ = setCells ({ s with mt := m }) by kernel_rfl)); replace bel := p9.below bel (by omega); clear l9 n9 p9))
  exact bodyPost_ret (v := .agg (setCells ({ s with mt := m }))) (results_cell_row Tryz.results18 _ _ _ _ (setCells ({ s with mt := m })) _ _ rfl l2 Tryz.underlying34 rfl (by kernel_rfl)) rfl ⟨rfl, bel⟩
set_option maxRecDepth 100000 in
set_option maxHeartbeats 4000000 in
theorem l4Set_8 (s : St) (n m : Int) (a p : Bool) (w : World) :
    Calls Tryz.prog 18 #[.agg #[.int .i64 s.sh, .int .i64 s.fl, .int .i64 s.cl, .bool s.w.a, .bool s.w.p, .int .i64 s.w.n, .bool s.h.a, .bool s.h.p, .int .i64 s.h.n, .int .i64 s.mn, .int .i64 s.mx, .int .i64 s.mt, .bool s.mr.a, .bool s.mr.p, .int .i64 s.mr.n, .int .i64 s.mb, .bool s.ml.a, .bool s.ml.p, .int .i64 s.ml.n, .int .i64 s.bo, .int .i64 s.pa, .int .i64 s.wh, .int .i64 s.al, .int .i64 s.lh, .int .i64 s.ri, .int .i64 s.dn], .string ⟨#[109, 97, 114, 103, 105, 110, 45, 114, 105, 103, 104, 116]⟩, .int .i64 n, .agg #[.bool a, .bool p, .int .i64 m]] w fun e w' => e = .returned (.agg (setCells ({ s with mr := ⟨a, p, m⟩ }))) ∧ Below w.heap.size w w' := by
  go_enter Tryz.func18, Tryz.ntmps18
  iterate 15 go_step
  refine wp_gen3 ?_
  intro W bel l0 l1 l2
  have x0 : W.cell? ⟨w.heap.size + 1, 0, none⟩ = some (.bool a) := lies_cell l1 0
  have x1 : W.cell? ⟨w.heap.size + 1, 1, none⟩ = some (.bool p) := lies_cell l1 1
  have x2 : W.cell? ⟨w.heap.size + 1, 2, none⟩ = some (.int .i64 m) := lies_cell l1 2
  clear l1
  go_wp2_with (first
    | ((with_reducible show wpList _ _ _ (⟨none, Op.store 32 _ _, _, _, _, _⟩ :: _) _ _); refine wpList_putA rfl _ _ _ rfl rfl _ 12 26 [.bool a, .bool p, .int .i64 m] _ _ rfl rfl l0 rfl (by kernel_rfl) (by kernel_rfl) (by kernel_rfl) ?_; intro w9 p9 l9 n9; replace l0 := l9.trans (congrArg (fun c => some (Obj.cells c 34 (0, 0))) (show _ = setCells ({ s with mr := ⟨a, p, m⟩ }) by kernel_rfl)); replace bel := p9.below bel (by omega); replace l2 := p9.lies l2 (by omega); clear l9 n9 p9)
    | ((with_reducible show wpList _ _ _ (⟨some 91, Op.load 34 _, _, _, _, _⟩ :: _) _ _); refine wpList_load_row rfl 34 _ rfl w.heap.size rfl _ (setCells ({ s with mr := ⟨a, p, m⟩ })) _ _ l0 Tryz.underlying34 rfl (by kernel_rfl) ?_)
    | ((with_reducible show wpList _ _ _ (⟨none, Op.store 34 _ _, _, _, _, _⟩ :: _) _ _); refine wpList_putA rfl _ _ _ rfl rfl _ 0 26 (setCells ({ s with mr := ⟨a, p, m⟩ })).toList _ _ rfl rfl l2 rfl (by kernel_rfl) (by kernel_rfl) (by kernel_rfl) ?_; intro w9 p9 l9 n9; replace l2 := l9.trans (congrArg (fun c => some (Obj.cells c 34 (0, 0))) (show _ = setCells ({ s with mr := ⟨a, p, m⟩ }) by kernel_rfl)); replace bel := p9.below bel (by omega); clear l9 n9 p9))
  exact bodyPost_ret (v := .agg (setCells ({ s with mr := ⟨a, p, m⟩ }))) (results_cell_row Tryz.results18 _ _ _ _ (setCells ({ s with mr := ⟨a, p, m⟩ })) _ _ rfl l2 Tryz.underlying34 rfl (by kernel_rfl)) rfl ⟨rfl, bel⟩
set_option maxRecDepth 100000 in
set_option maxHeartbeats 4000000 in
theorem l4Set_9 (s : St) (n m : Int) (a p : Bool) (w : World) :
    Calls Tryz.prog 18 #[.agg #[.int .i64 s.sh, .int .i64 s.fl, .int .i64 s.cl, .bool s.w.a, .bool s.w.p, .int .i64 s.w.n, .bool s.h.a, .bool s.h.p, .int .i64 s.h.n, .int .i64 s.mn, .int .i64 s.mx, .int .i64 s.mt, .bool s.mr.a, .bool s.mr.p, .int .i64 s.mr.n, .int .i64 s.mb, .bool s.ml.a, .bool s.ml.p, .int .i64 s.ml.n, .int .i64 s.bo, .int .i64 s.pa, .int .i64 s.wh, .int .i64 s.al, .int .i64 s.lh, .int .i64 s.ri, .int .i64 s.dn], .string ⟨#[109, 97, 114, 103, 105, 110, 45, 98, 111, 116, 116, 111, 109]⟩, .int .i64 n, .agg #[.bool a, .bool p, .int .i64 m]] w fun e w' => e = .returned (.agg (setCells ({ s with mb := m }))) ∧ Below w.heap.size w w' := by
  go_enter Tryz.func18, Tryz.ntmps18
  iterate 15 go_step
  refine wp_gen3 ?_
  intro W bel l0 l1 l2
  have x0 : W.cell? ⟨w.heap.size + 1, 0, none⟩ = some (.bool a) := lies_cell l1 0
  have x1 : W.cell? ⟨w.heap.size + 1, 1, none⟩ = some (.bool p) := lies_cell l1 1
  have x2 : W.cell? ⟨w.heap.size + 1, 2, none⟩ = some (.int .i64 m) := lies_cell l1 2
  clear l1
  go_wp2_with (first
    | ((with_reducible show wpList _ _ _ (⟨none, Op.store 3 _ _, _, _, _, _⟩ :: _) _ _); refine wpList_putA rfl _ _ _ rfl rfl _ 15 26 [.int .i64 m] _ _ rfl rfl l0 rfl (by kernel_rfl) (by kernel_rfl) (by kernel_rfl) ?_; intro w9 p9 l9 n9; replace l0 := l9.trans (congrArg (fun c => some (Obj.cells c 34 (0, 0))) (show _ = setCells ({ s with mb := m }) by kernel_rfl)); replace bel := p9.below bel (by omega); replace l2 := p9.lies l2 (by omega); clear l9 n9 p9)
    | ((with_reducible show wpList _ _ _ (⟨some 91, Op.load 34 _, _, _, _, _⟩ :: _) _ _); refine wpList_load_row rfl 34 _ rfl w.heap.size rfl _ (setCells ({ s with mb := m })) _ _ l0 Tryz.underlying34 rfl (by kernel_rfl) ?_)
    | ((with_reducible show wpList _ _ _ (⟨none, Op.store 34 _ _, _, _, _, _⟩ :: _) _ _); refine wpList_putA rfl _ _ _ rfl rfl _ 0 26 (setCells ({ s with mb := m })).toList _ _ rfl rfl l2 rfl (by kernel_rfl) (by kernel_rfl) (by kernel_rfl) ?_; intro w9 p9 l9 n9; replace l2 := l9.trans (congrArg (fun c => some (Obj.cells c 34 (0, 0))) (show _ = setCells ({ s with mb := m }) by kernel_rfl)); replace bel := p9.below bel (by omega); clear l9 n9 p9))
  exact bodyPost_ret (v := .agg (setCells ({ s with mb := m }))) (results_cell_row Tryz.results18 _ _ _ _ (setCells ({ s with mb := m })) _ _ rfl l2 Tryz.underlying34 rfl (by kernel_rfl)) rfl ⟨rfl, bel⟩
set_option maxRecDepth 100000 in
set_option maxHeartbeats 4000000 in
theorem l4Set_10 (s : St) (n m : Int) (a p : Bool) (w : World) :
    Calls Tryz.prog 18 #[.agg #[.int .i64 s.sh, .int .i64 s.fl, .int .i64 s.cl, .bool s.w.a, .bool s.w.p, .int .i64 s.w.n, .bool s.h.a, .bool s.h.p, .int .i64 s.h.n, .int .i64 s.mn, .int .i64 s.mx, .int .i64 s.mt, .bool s.mr.a, .bool s.mr.p, .int .i64 s.mr.n, .int .i64 s.mb, .bool s.ml.a, .bool s.ml.p, .int .i64 s.ml.n, .int .i64 s.bo, .int .i64 s.pa, .int .i64 s.wh, .int .i64 s.al, .int .i64 s.lh, .int .i64 s.ri, .int .i64 s.dn], .string ⟨#[109, 97, 114, 103, 105, 110, 45, 108, 101, 102, 116]⟩, .int .i64 n, .agg #[.bool a, .bool p, .int .i64 m]] w fun e w' => e = .returned (.agg (setCells ({ s with ml := ⟨a, p, m⟩ }))) ∧ Below w.heap.size w w' := by
  go_enter Tryz.func18, Tryz.ntmps18
  iterate 15 go_step
  refine wp_gen3 ?_
  intro W bel l0 l1 l2
  have x0 : W.cell? ⟨w.heap.size + 1, 0, none⟩ = some (.bool a) := lies_cell l1 0
  have x1 : W.cell? ⟨w.heap.size + 1, 1, none⟩ = some (.bool p) := lies_cell l1 1
  have x2 : W.cell? ⟨w.heap.size + 1, 2, none⟩ = some (.int .i64 m) := lies_cell l1 2
  clear l1
  go_wp2_with (first
    | ((with_reducible show wpList _ _ _ (⟨none, Op.store 32 _ _, _, _, _, _⟩ :: _) _ _); refine wpList_putA rfl _ _ _ rfl rfl _ 16 26 [.bool a, .bool p, .int .i64 m] _ _ rfl rfl l0 rfl (by kernel_rfl) (by kernel_rfl) (by kernel_rfl) ?_; intro w9 p9 l9 n9; replace l0 := l9.trans (congrArg (fun c => some (Obj.cells c 34 (0, 0))) (show _ = setCells ({ s with ml := ⟨a, p, m⟩ }) by kernel_rfl)); replace bel := p9.below bel (by omega); replace l2 := p9.lies l2 (by omega); clear l9 n9 p9)
    | ((with_reducible show wpList _ _ _ (⟨some 91, Op.load 34 _, _, _, _, _⟩ :: _) _ _); refine wpList_load_row rfl 34 _ rfl w.heap.size rfl _ (setCells ({ s with ml := ⟨a, p, m⟩ })) _ _ l0 Tryz.underlying34 rfl (by kernel_rfl) ?_)
    | ((with_reducible show wpList _ _ _ (⟨none, Op.store 34 _ _, _, _, _, _⟩ :: _) _ _); refine wpList_putA rfl _ _ _ rfl rfl _ 0 26 (setCells ({ s with ml := ⟨a, p, m⟩ })).toList _ _ rfl rfl l2 rfl (by kernel_rfl) (by kernel_rfl) (by kernel_rfl) ?_; intro w9 p9 l9 n9; replace l2 := l9.trans (congrArg (fun c => some (Obj.cells c 34 (0, 0))) (show _ = setCells ({ s with ml := ⟨a, p, m⟩ }) by kernel_rfl)); replace bel := p9.below bel (by omega); clear l9 n9 p9))
  exact bodyPost_ret (v := .agg (setCells ({ s with ml := ⟨a, p, m⟩ }))) (results_cell_row Tryz.results18 _ _ _ _ (setCells ({ s with ml := ⟨a, p, m⟩ })) _ _ rfl l2 Tryz.underlying34 rfl (by kernel_rfl)) rfl ⟨rfl, bel⟩
set_option maxRecDepth 100000 in
set_option maxHeartbeats 4000000 in
theorem l4Set_11 (s : St) (n m : Int) (a p : Bool) (w : World) :
    Calls Tryz.prog 18 #[.agg #[.int .i64 s.sh, .int .i64 s.fl, .int .i64 s.cl, .bool s.w.a, .bool s.w.p, .int .i64 s.w.n, .bool s.h.a, .bool s.h.p, .int .i64 s.h.n, .int .i64 s.mn, .int .i64 s.mx, .int .i64 s.mt, .bool s.mr.a, .bool s.mr.p, .int .i64 s.mr.n, .int .i64 s.mb, .bool s.ml.a, .bool s.ml.p, .int .i64 s.ml.n, .int .i64 s.bo, .int .i64 s.pa, .int .i64 s.wh, .int .i64 s.al, .int .i64 s.lh, .int .i64 s.ri, .int .i64 s.dn], .string ⟨#[98, 111, 114, 100, 101, 114]⟩, .int .i64 n, .agg #[.bool a, .bool p, .int .i64 m]] w fun e w' => e = .returned (.agg (setCells ({ s with bo := m }))) ∧ Below w.heap.size w w' := by
  go_enter Tryz.func18, Tryz.ntmps18
  iterate 15 go_step
  refine wp_gen3 ?_
  intro W bel l0 l1 l2
  have x0 : W.cell? ⟨w.heap.size + 1, 0, none⟩ = some (.bool a) := lies_cell l1 0
  have x1 : W.cell? ⟨w.heap.size + 1, 1, none⟩ = some (.bool p) := lies_cell l1 1
  have x2 : W.cell? ⟨w.heap.size + 1, 2, none⟩ = some (.int .i64 m) := lies_cell l1 2
  clear l1
  go_wp2_with (first
    | ((with_reducible show wpList _ _ _ (⟨none, Op.store 3 _ _, _, _, _, _⟩ :: _) _ _); refine wpList_putA rfl _ _ _ rfl rfl _ 19 26 [.int .i64 m] _ _ rfl rfl l0 rfl (by kernel_rfl) (by kernel_rfl) (by kernel_rfl) ?_; intro w9 p9 l9 n9; replace l0 := l9.trans (congrArg (fun c => some (Obj.cells c 34 (0, 0))) (show _ = setCells ({ s with bo := m }) by kernel_rfl)); replace bel := p9.below bel (by omega); replace l2 := p9.lies l2 (by omega); clear l9 n9 p9)
    | ((with_reducible show wpList _ _ _ (⟨some 91, Op.load 34 _, _, _, _, _⟩ :: _) _ _); refine wpList_load_row rfl 34 _ rfl w.heap.size rfl _ (setCells ({ s with bo := m })) _ _ l0 Tryz.underlying34 rfl (by kernel_rfl) ?_)
    | ((with_reducible show wpList _ _ _ (⟨none, Op.store 34 _ _, _, _, _, _⟩ :: _) _ _); refine wpList_putA rfl _ _ _ rfl rfl _ 0 26 (setCells ({ s with bo := m })).toList _ _ rfl rfl l2 rfl (by kernel_rfl) (by kernel_rfl) (by kernel_rfl) ?_; intro w9 p9 l9 n9; replace l2 := l9.trans (congrArg (fun c => some (Obj.cells c 34 (0, 0))) (show _ = setCells ({ s with bo := m }) by kernel_rfl)); replace bel := p9.below bel (by omega); clear l9 n9 p9))
  exact bodyPost_ret (v := .agg (setCells ({ s with bo := m }))) (results_cell_row Tryz.results18 _ _ _ _ (setCells ({ s with bo := m })) _ _ rfl l2 Tryz.underlying34 rfl (by kernel_rfl)) rfl ⟨rfl, bel⟩
set_option maxRecDepth 100000 in
set_option maxHeartbeats 4000000 in
theorem l4Set_12 (s : St) (n m : Int) (a p : Bool) (w : World) :
    Calls Tryz.prog 18 #[.agg #[.int .i64 s.sh, .int .i64 s.fl, .int .i64 s.cl, .bool s.w.a, .bool s.w.p, .int .i64 s.w.n, .bool s.h.a, .bool s.h.p, .int .i64 s.h.n, .int .i64 s.mn, .int .i64 s.mx, .int .i64 s.mt, .bool s.mr.a, .bool s.mr.p, .int .i64 s.mr.n, .int .i64 s.mb, .bool s.ml.a, .bool s.ml.p, .int .i64 s.ml.n, .int .i64 s.bo, .int .i64 s.pa, .int .i64 s.wh, .int .i64 s.al, .int .i64 s.lh, .int .i64 s.ri, .int .i64 s.dn], .string ⟨#[112, 97, 100, 100, 105, 110, 103]⟩, .int .i64 n, .agg #[.bool a, .bool p, .int .i64 m]] w fun e w' => e = .returned (.agg (setCells ({ s with pa := m }))) ∧ Below w.heap.size w w' := by
  go_enter Tryz.func18, Tryz.ntmps18
  iterate 15 go_step
  refine wp_gen3 ?_
  intro W bel l0 l1 l2
  have x0 : W.cell? ⟨w.heap.size + 1, 0, none⟩ = some (.bool a) := lies_cell l1 0
  have x1 : W.cell? ⟨w.heap.size + 1, 1, none⟩ = some (.bool p) := lies_cell l1 1
  have x2 : W.cell? ⟨w.heap.size + 1, 2, none⟩ = some (.int .i64 m) := lies_cell l1 2
  clear l1
  go_wp2_with (first
    | ((with_reducible show wpList _ _ _ (⟨none, Op.store 3 _ _, _, _, _, _⟩ :: _) _ _); refine wpList_putA rfl _ _ _ rfl rfl _ 20 26 [.int .i64 m] _ _ rfl rfl l0 rfl (by kernel_rfl) (by kernel_rfl) (by kernel_rfl) ?_; intro w9 p9 l9 n9; replace l0 := l9.trans (congrArg (fun c => some (Obj.cells c 34 (0, 0))) (show _ = setCells ({ s with pa := m }) by kernel_rfl)); replace bel := p9.below bel (by omega); replace l2 := p9.lies l2 (by omega); clear l9 n9 p9)
    | ((with_reducible show wpList _ _ _ (⟨some 91, Op.load 34 _, _, _, _, _⟩ :: _) _ _); refine wpList_load_row rfl 34 _ rfl w.heap.size rfl _ (setCells ({ s with pa := m })) _ _ l0 Tryz.underlying34 rfl (by kernel_rfl) ?_)
    | ((with_reducible show wpList _ _ _ (⟨none, Op.store 34 _ _, _, _, _, _⟩ :: _) _ _); refine wpList_putA rfl _ _ _ rfl rfl _ 0 26 (setCells ({ s with pa := m })).toList _ _ rfl rfl l2 rfl (by kernel_rfl) (by kernel_rfl) (by kernel_rfl) ?_; intro w9 p9 l9 n9; replace l2 := l9.trans (congrArg (fun c => some (Obj.cells c 34 (0, 0))) (show _ = setCells ({ s with pa := m }) by kernel_rfl)); replace bel := p9.below bel (by omega); clear l9 n9 p9))
  exact bodyPost_ret (v := .agg (setCells ({ s with pa := m }))) (results_cell_row Tryz.results18 _ _ _ _ (setCells ({ s with pa := m })) _ _ rfl l2 Tryz.underlying34 rfl (by kernel_rfl)) rfl ⟨rfl, bel⟩
set_option maxRecDepth 100000 in
set_option maxHeartbeats 4000000 in
theorem l4Set_13 (s : St) (n m : Int) (a p : Bool) (w : World) :
    Calls Tryz.prog 18 #[.agg #[.int .i64 s.sh, .int .i64 s.fl, .int .i64 s.cl, .bool s.w.a, .bool s.w.p, .int .i64 s.w.n, .bool s.h.a, .bool s.h.p, .int .i64 s.h.n, .int .i64 s.mn, .int .i64 s.mx, .int .i64 s.mt, .bool s.mr.a, .bool s.mr.p, .int .i64 s.mr.n, .int .i64 s.mb, .bool s.ml.a, .bool s.ml.p, .int .i64 s.ml.n, .int .i64 s.bo, .int .i64 s.pa, .int .i64 s.wh, .int .i64 s.al, .int .i64 s.lh, .int .i64 s.ri, .int .i64 s.dn], .string ⟨#[119, 104, 105, 116, 101]⟩, .int .i64 n, .agg #[.bool a, .bool p, .int .i64 m]] w fun e w' => e = .returned (.agg (setCells ({ s with wh := n }))) ∧ Below w.heap.size w w' := by
  go_enter Tryz.func18, Tryz.ntmps18
  iterate 15 go_step
  refine wp_gen3 ?_
  intro W bel l0 l1 l2
  have x0 : W.cell? ⟨w.heap.size + 1, 0, none⟩ = some (.bool a) := lies_cell l1 0
  have x1 : W.cell? ⟨w.heap.size + 1, 1, none⟩ = some (.bool p) := lies_cell l1 1
  have x2 : W.cell? ⟨w.heap.size + 1, 2, none⟩ = some (.int .i64 m) := lies_cell l1 2
  clear l1
  go_wp2_with (first
    | ((with_reducible show wpList _ _ _ (⟨none, Op.store 3 _ _, _, _, _, _⟩ :: _) _ _); refine wpList_putA rfl _ _ _ rfl rfl _ 21 26 [.int .i64 n] _ _ rfl rfl l0 rfl (by kernel_rfl) (by kernel_rfl) (by kernel_rfl) ?_; intro w9 p9 l9 n9; replace l0 := l9.trans (congrArg (fun c => some (Obj.cells c 34 (0, 0))) (show _ = setCells ({ s with wh := n }) by kernel_rfl)); replace bel := p9.below bel (by omega); replace l2 := p9.lies l2 (by omega); clear l9 n9 p9)
    | ((with_reducible show wpList _ _ _ (⟨some 91, Op.load 34 _, _, _, _, _⟩ :: _) _ _); refine wpList_load_row rfl 34 _ rfl w.heap.size rfl _ (setCells ({ s with wh := n })) _ _ l0 Tryz.underlying34 rfl (by kernel_rfl) ?_)
    | ((with_reducible show wpList _ _ _ (⟨none, Op.store 34 _ _, _, _, _, _⟩ :: _) _ _); refine wpList_putA rfl _ _ _ rfl rfl _ 0 26 (setCells ({ s with wh := n })).toList _ _ rfl rfl l2 rfl (by kernel_rfl) (by kernel_rfl) (by kernel_rfl) ?_; intro w9 p9 l9 n9; replace l2 := l9.trans (congrArg (fun c => some (Obj.cells c 34 (0, 0))) (show _ = setCells ({ s with wh := n }) by kernel_rfl)); replace bel := p9.below bel (by omega); clear l9 n9 p9))
  exact bodyPost_ret (v := .agg (setCells ({ s with wh := n }))) (results_cell_row Tryz.results18 _ _ _ _ (setCells ({ s with wh := n })) _ _ rfl l2 Tryz.underlying34 rfl (by kernel_rfl)) rfl ⟨rfl, bel⟩
set_option maxRecDepth 100000 in
set_option maxHeartbeats 4000000 in
theorem l4Set_14 (s : St) (n m : Int) (a p : Bool) (w : World) :
    Calls Tryz.prog 18 #[.agg #[.int .i64 s.sh, .int .i64 s.fl, .int .i64 s.cl, .bool s.w.a, .bool s.w.p, .int .i64 s.w.n, .bool s.h.a, .bool s.h.p, .int .i64 s.h.n, .int .i64 s.mn, .int .i64 s.mx, .int .i64 s.mt, .bool s.mr.a, .bool s.mr.p, .int .i64 s.mr.n, .int .i64 s.mb, .bool s.ml.a, .bool s.ml.p, .int .i64 s.ml.n, .int .i64 s.bo, .int .i64 s.pa, .int .i64 s.wh, .int .i64 s.al, .int .i64 s.lh, .int .i64 s.ri, .int .i64 s.dn], .string ⟨#[97, 108, 105, 103, 110]⟩, .int .i64 n, .agg #[.bool a, .bool p, .int .i64 m]] w fun e w' => e = .returned (.agg (setCells ({ s with al := n }))) ∧ Below w.heap.size w w' := by
  go_enter Tryz.func18, Tryz.ntmps18
  iterate 15 go_step
  refine wp_gen3 ?_
  intro W bel l0 l1 l2
  have x0 : W.cell? ⟨w.heap.size + 1, 0, none⟩ = some (.bool a) := lies_cell l1 0
  have x1 : W.cell? ⟨w.heap.size + 1, 1, none⟩ = some (.bool p) := lies_cell l1 1
  have x2 : W.cell? ⟨w.heap.size + 1, 2, none⟩ = some (.int .i64 m) := lies_cell l1 2
  clear l1
  go_wp2_with (first
    | ((with_reducible show wpList _ _ _ (⟨none, Op.store 3 _ _, _, _, _, _⟩ :: _) _ _); refine wpList_putA rfl _ _ _ rfl rfl _ 22 26 [.int .i64 n] _ _ rfl rfl l0 rfl (by kernel_rfl) (by kernel_rfl) (by kernel_rfl) ?_; intro w9 p9 l9 n9; replace l0 := l9.trans (congrArg (fun c => some (Obj.cells c 34 (0, 0))) (show _ = setCells ({ s with al := n }) by kernel_rfl)); replace bel := p9.below bel (by omega); replace l2 := p9.lies l2 (by omega); clear l9 n9 p9)
    | ((with_reducible show wpList _ _ _ (⟨some 91, Op.load 34 _, _, _, _, _⟩ :: _) _ _); refine wpList_load_row rfl 34 _ rfl w.heap.size rfl _ (setCells ({ s with al := n })) _ _ l0 Tryz.underlying34 rfl (by kernel_rfl) ?_)
    | ((with_reducible show wpList _ _ _ (⟨none, Op.store 34 _ _, _, _, _, _⟩ :: _) _ _); refine wpList_putA rfl _ _ _ rfl rfl _ 0 26 (setCells ({ s with al := n })).toList _ _ rfl rfl l2 rfl (by kernel_rfl) (by kernel_rfl) (by kernel_rfl) ?_; intro w9 p9 l9 n9; replace l2 := l9.trans (congrArg (fun c => some (Obj.cells c 34 (0, 0))) (show _ = setCells ({ s with al := n }) by kernel_rfl)); replace bel := p9.below bel (by omega); clear l9 n9 p9))
  exact bodyPost_ret (v := .agg (setCells ({ s with al := n }))) (results_cell_row Tryz.results18 _ _ _ _ (setCells ({ s with al := n })) _ _ rfl l2 Tryz.underlying34 rfl (by kernel_rfl)) rfl ⟨rfl, bel⟩
set_option maxRecDepth 100000 in
set_option maxHeartbeats 4000000 in
theorem l4Set_15 (s : St) (n m : Int) (a p : Bool) (w : World) :
    Calls Tryz.prog 18 #[.agg #[.int .i64 s.sh, .int .i64 s.fl, .int .i64 s.cl, .bool s.w.a, .bool s.w.p, .int .i64 s.w.n, .bool s.h.a, .bool s.h.p, .int .i64 s.h.n, .int .i64 s.mn, .int .i64 s.mx, .int .i64 s.mt, .bool s.mr.a, .bool s.mr.p, .int .i64 s.mr.n, .int .i64 s.mb, .bool s.ml.a, .bool s.ml.p, .int .i64 s.ml.n, .int .i64 s.bo, .int .i64 s.pa, .int .i64 s.wh, .int .i64 s.al, .int .i64 s.lh, .int .i64 s.ri, .int .i64 s.dn], .string ⟨#[108, 105, 110, 101, 45, 104, 101, 105, 103, 104, 116]⟩, .int .i64 n, .agg #[.bool a, .bool p, .int .i64 m]] w fun e w' => e = .returned (.agg (setCells ({ s with lh := m }))) ∧ Below w.heap.size w w' := by
  go_enter Tryz.func18, Tryz.ntmps18
  iterate 15 go_step
  refine wp_gen3 ?_
  intro W bel l0 l1 l2
  have x0 : W.cell? ⟨w.heap.size + 1, 0, none⟩ = some (.bool a) := lies_cell l1 0
  have x1 : W.cell? ⟨w.heap.size + 1, 1, none⟩ = some (.bool p) := lies_cell l1 1
  have x2 : W.cell? ⟨w.heap.size + 1, 2, none⟩ = some (.int .i64 m) := lies_cell l1 2
  clear l1
  go_wp2_with (first
    | ((with_reducible show wpList _ _ _ (⟨none, Op.store 3 _ _, _, _, _, _⟩ :: _) _ _); refine wpList_putA rfl _ _ _ rfl rfl _ 23 26 [.int .i64 m] _ _ rfl rfl l0 rfl (by kernel_rfl) (by kernel_rfl) (by kernel_rfl) ?_; intro w9 p9 l9 n9; replace l0 := l9.trans (congrArg (fun c => some (Obj.cells c 34 (0, 0))) (show _ = setCells ({ s with lh := m }) by kernel_rfl)); replace bel := p9.below bel (by omega); replace l2 := p9.lies l2 (by omega); clear l9 n9 p9)
    | ((with_reducible show wpList _ _ _ (⟨some 91, Op.load 34 _, _, _, _, _⟩ :: _) _ _); refine wpList_load_row rfl 34 _ rfl w.heap.size rfl _ (setCells ({ s with lh := m })) _ _ l0 Tryz.underlying34 rfl (by kernel_rfl) ?_)
    | ((with_reducible show wpList _ _ _ (⟨none, Op.store 34 _ _, _, _, _, _⟩ :: _) _ _); refine wpList_putA rfl _ _ _ rfl rfl _ 0 26 (setCells ({ s with lh := m })).toList _ _ rfl rfl l2 rfl (by kernel_rfl) (by kernel_rfl) (by kernel_rfl) ?_; intro w9 p9 l9 n9; replace l2 := l9.trans (congrArg (fun c => some (Obj.cells c 34 (0, 0))) (show _ = setCells ({ s with lh := m }) by kernel_rfl)); replace bel := p9.below bel (by omega); clear l9 n9 p9))
  exact bodyPost_ret (v := .agg (setCells ({ s with lh := m }))) (results_cell_row Tryz.results18 _ _ _ _ (setCells ({ s with lh := m })) _ _ rfl l2 Tryz.underlying34 rfl (by kernel_rfl)) rfl ⟨rfl, bel⟩
set_option maxRecDepth 100000 in
set_option maxHeartbeats 4000000 in
theorem l4Set_16 (s : St) (n m : Int) (a p : Bool) (w : World) :
    Calls Tryz.prog 18 #[.agg #[.int .i64 s.sh, .int .i64 s.fl, .int .i64 s.cl, .bool s.w.a, .bool s.w.p, .int .i64 s.w.n, .bool s.h.a, .bool s.h.p, .int .i64 s.h.n, .int .i64 s.mn, .int .i64 s.mx, .int .i64 s.mt, .bool s.mr.a, .bool s.mr.p, .int .i64 s.mr.n, .int .i64 s.mb, .bool s.ml.a, .bool s.ml.p, .int .i64 s.ml.n, .int .i64 s.bo, .int .i64 s.pa, .int .i64 s.wh, .int .i64 s.al, .int .i64 s.lh, .int .i64 s.ri, .int .i64 s.dn], .string ⟨#[114, 105, 103, 104, 116]⟩, .int .i64 n, .agg #[.bool a, .bool p, .int .i64 m]] w fun e w' => e = .returned (.agg (setCells ({ s with ri := m }))) ∧ Below w.heap.size w w' := by
  go_enter Tryz.func18, Tryz.ntmps18
  iterate 15 go_step
  refine wp_gen3 ?_
  intro W bel l0 l1 l2
  have x0 : W.cell? ⟨w.heap.size + 1, 0, none⟩ = some (.bool a) := lies_cell l1 0
  have x1 : W.cell? ⟨w.heap.size + 1, 1, none⟩ = some (.bool p) := lies_cell l1 1
  have x2 : W.cell? ⟨w.heap.size + 1, 2, none⟩ = some (.int .i64 m) := lies_cell l1 2
  clear l1
  go_wp2_with (first
    | ((with_reducible show wpList _ _ _ (⟨none, Op.store 3 _ _, _, _, _, _⟩ :: _) _ _); refine wpList_putA rfl _ _ _ rfl rfl _ 24 26 [.int .i64 m] _ _ rfl rfl l0 rfl (by kernel_rfl) (by kernel_rfl) (by kernel_rfl) ?_; intro w9 p9 l9 n9; replace l0 := l9.trans (congrArg (fun c => some (Obj.cells c 34 (0, 0))) (show _ = setCells ({ s with ri := m }) by kernel_rfl)); replace bel := p9.below bel (by omega); replace l2 := p9.lies l2 (by omega); clear l9 n9 p9)
    | ((with_reducible show wpList _ _ _ (⟨some 91, Op.load 34 _, _, _, _, _⟩ :: _) _ _); refine wpList_load_row rfl 34 _ rfl w.heap.size rfl _ (setCells ({ s with ri := m })) _ _ l0 Tryz.underlying34 rfl (by kernel_rfl) ?_)
    | ((with_reducible show wpList _ _ _ (⟨none, Op.store 34 _ _, _, _, _, _⟩ :: _) _ _); refine wpList_putA rfl _ _ _ rfl rfl _ 0 26 (setCells ({ s with ri := m })).toList _ _ rfl rfl l2 rfl (by kernel_rfl) (by kernel_rfl) (by kernel_rfl) ?_; intro w9 p9 l9 n9; replace l2 := l9.trans (congrArg (fun c => some (Obj.cells c 34 (0, 0))) (show _ = setCells ({ s with ri := m }) by kernel_rfl)); replace bel := p9.below bel (by omega); clear l9 n9 p9))
  exact bodyPost_ret (v := .agg (setCells ({ s with ri := m }))) (results_cell_row Tryz.results18 _ _ _ _ (setCells ({ s with ri := m })) _ _ rfl l2 Tryz.underlying34 rfl (by kernel_rfl)) rfl ⟨rfl, bel⟩
set_option maxRecDepth 100000 in
set_option maxHeartbeats 4000000 in
theorem l4Set_17 (s : St) (n m : Int) (a p : Bool) (w : World) :
    Calls Tryz.prog 18 #[.agg #[.int .i64 s.sh, .int .i64 s.fl, .int .i64 s.cl, .bool s.w.a, .bool s.w.p, .int .i64 s.w.n, .bool s.h.a, .bool s.h.p, .int .i64 s.h.n, .int .i64 s.mn, .int .i64 s.mx, .int .i64 s.mt, .bool s.mr.a, .bool s.mr.p, .int .i64 s.mr.n, .int .i64 s.mb, .bool s.ml.a, .bool s.ml.p, .int .i64 s.ml.n, .int .i64 s.bo, .int .i64 s.pa, .int .i64 s.wh, .int .i64 s.al, .int .i64 s.lh, .int .i64 s.ri, .int .i64 s.dn], .string ⟨#[100, 111, 119, 110]⟩, .int .i64 n, .agg #[.bool a, .bool p, .int .i64 m]] w fun e w' => e = .returned (.agg (setCells ({ s with dn := m }))) ∧ Below w.heap.size w w' := by
  go_enter Tryz.func18, Tryz.ntmps18
  iterate 15 go_step
  refine wp_gen3 ?_
  intro W bel l0 l1 l2
  have x0 : W.cell? ⟨w.heap.size + 1, 0, none⟩ = some (.bool a) := lies_cell l1 0
  have x1 : W.cell? ⟨w.heap.size + 1, 1, none⟩ = some (.bool p) := lies_cell l1 1
  have x2 : W.cell? ⟨w.heap.size + 1, 2, none⟩ = some (.int .i64 m) := lies_cell l1 2
  clear l1
  go_wp2_with (first
    | ((with_reducible show wpList _ _ _ (⟨none, Op.store 3 _ _, _, _, _, _⟩ :: _) _ _); refine wpList_putA rfl _ _ _ rfl rfl _ 25 26 [.int .i64 m] _ _ rfl rfl l0 rfl (by kernel_rfl) (by kernel_rfl) (by kernel_rfl) ?_; intro w9 p9 l9 n9; replace l0 := l9.trans (congrArg (fun c => some (Obj.cells c 34 (0, 0))) (show _ = setCells ({ s with dn := m }) by kernel_rfl)); replace bel := p9.below bel (by omega); replace l2 := p9.lies l2 (by omega); clear l9 n9 p9)
    | ((with_reducible show wpList _ _ _ (⟨some 91, Op.load 34 _, _, _, _, _⟩ :: _) _ _); refine wpList_load_row rfl 34 _ rfl w.heap.size rfl _ (setCells ({ s with dn := m })) _ _ l0 Tryz.underlying34 rfl (by kernel_rfl) ?_)
    | ((with_reducible show wpList _ _ _ (⟨none, Op.store 34 _ _, _, _, _, _⟩ :: _) _ _); refine wpList_putA rfl _ _ _ rfl rfl _ 0 26 (setCells ({ s with dn := m })).toList _ _ rfl rfl l2 rfl (by kernel_rfl) (by kernel_rfl) (by kernel_rfl) ?_; intro w9 p9 l9 n9; replace l2 := l9.trans (congrArg (fun c => some (Obj.cells c 34 (0, 0))) (show _ = setCells ({ s with dn := m }) by kernel_rfl)); replace bel := p9.below bel (by omega); clear l9 n9 p9))
  exact bodyPost_ret (v := .agg (setCells ({ s with dn := m }))) (results_cell_row Tryz.results18 _ _ _ _ (setCells ({ s with dn := m })) _ _ rfl l2 Tryz.underlying34 rfl (by kernel_rfl)) rfl ⟨rfl, bel⟩
end Go.Proofs.YtddnphgpdnedbaaGreatDoor

namespace Go.Proofs.YtddnphgpdnedbaaGreatDoor
open Go.ChangeShapes Go.WideShapes Go.ChangeAt Go.RowKit
set_option linter.unusedVariables false

set_option maxHeartbeats 2000000 in
theorem words_none (nm : ByteArray) (w : World) (h0 : (nm.toList == [115, 104, 111, 119]) = false) (h1 : (nm.toList == [102, 108, 111, 97, 116]) = false) (h2 : (nm.toList == [99, 108, 101, 97, 114]) = false) (h13 : (nm.toList == [119, 104, 105, 116, 101]) = false) (h14 : (nm.toList == [97, 108, 105, 103, 110]) = false) :
    Calls Tryz.prog 36 #[.string nm] w fun e w' => e = .returned (.slice none 0 0) ∧ w' = w := by
  go_enter Tryz.func36, Tryz.ntmps36
  go_wp2
  go_ret
  exact ⟨rfl, rfl⟩
set_option maxRecDepth 100000 in
set_option maxHeartbeats 4000000 in
theorem set_none (s : St) (nm : ByteArray) (n m : Int) (a p : Bool) (w : World) (h0 : (nm.toList == [115, 104, 111, 119]) = false) (h1 : (nm.toList == [102, 108, 111, 97, 116]) = false) (h2 : (nm.toList == [99, 108, 101, 97, 114]) = false) (h3 : (nm.toList == [119, 105, 100, 116, 104]) = false) (h4 : (nm.toList == [104, 101, 105, 103, 104, 116]) = false) (h5 : (nm.toList == [109, 105, 110, 45, 119, 105, 100, 116, 104]) = false) (h6 : (nm.toList == [109, 97, 120, 45, 119, 105, 100, 116, 104]) = false) (h7 : (nm.toList == [109, 97, 114, 103, 105, 110, 45, 116, 111, 112]) = false) (h8 : (nm.toList == [109, 97, 114, 103, 105, 110, 45, 114, 105, 103, 104, 116]) = false) (h9 : (nm.toList == [109, 97, 114, 103, 105, 110, 45, 98, 111, 116, 116, 111, 109]) = false) (h10 : (nm.toList == [109, 97, 114, 103, 105, 110, 45, 108, 101, 102, 116]) = false) (h11 : (nm.toList == [98, 111, 114, 100, 101, 114]) = false) (h12 : (nm.toList == [112, 97, 100, 100, 105, 110, 103]) = false) (h13 : (nm.toList == [119, 104, 105, 116, 101]) = false) (h14 : (nm.toList == [97, 108, 105, 103, 110]) = false) (h15 : (nm.toList == [108, 105, 110, 101, 45, 104, 101, 105, 103, 104, 116]) = false) (h16 : (nm.toList == [114, 105, 103, 104, 116]) = false) (h17 : (nm.toList == [100, 111, 119, 110]) = false) :
    Calls Tryz.prog 18 #[.agg (#[.int .i64 s.sh, .int .i64 s.fl, .int .i64 s.cl, .bool s.w.a, .bool s.w.p, .int .i64 s.w.n, .bool s.h.a, .bool s.h.p, .int .i64 s.h.n, .int .i64 s.mn, .int .i64 s.mx, .int .i64 s.mt, .bool s.mr.a, .bool s.mr.p, .int .i64 s.mr.n, .int .i64 s.mb, .bool s.ml.a, .bool s.ml.p, .int .i64 s.ml.n, .int .i64 s.bo, .int .i64 s.pa, .int .i64 s.wh, .int .i64 s.al, .int .i64 s.lh, .int .i64 s.ri, .int .i64 s.dn]), .string nm, .int .i64 n, .agg #[.bool a, .bool p, .int .i64 m]] w fun e w' => e = .returned (.agg (#[.int .i64 s.sh, .int .i64 s.fl, .int .i64 s.cl, .bool s.w.a, .bool s.w.p, .int .i64 s.w.n, .bool s.h.a, .bool s.h.p, .int .i64 s.h.n, .int .i64 s.mn, .int .i64 s.mx, .int .i64 s.mt, .bool s.mr.a, .bool s.mr.p, .int .i64 s.mr.n, .int .i64 s.mb, .bool s.ml.a, .bool s.ml.p, .int .i64 s.ml.n, .int .i64 s.bo, .int .i64 s.pa, .int .i64 s.wh, .int .i64 s.al, .int .i64 s.lh, .int .i64 s.ri, .int .i64 s.dn])) ∧ Below w.heap.size w w' := by
  go_enter Tryz.func18, Tryz.ntmps18
  iterate 15 go_step
  refine wp_gen3 ?_
  intro W bel l0 l1 l2
  clear l1
  go_wp2_with (first
    | ((with_reducible show wpList _ _ _ (⟨some 91, Op.load 34 _, _, _, _, _⟩ :: _) _ _); refine wpList_load_row rfl 34 _ rfl w.heap.size rfl _ (setCells s) _ _ l0 Tryz.underlying34 rfl (by kernel_rfl) ?_)
    | ((with_reducible show wpList _ _ _ (⟨none, Op.store 34 _ _, _, _, _, _⟩ :: _) _ _); refine wpList_putA rfl _ _ _ rfl rfl _ 0 26 (setCells s).toList _ _ rfl rfl l2 rfl (by kernel_rfl) (by kernel_rfl) (by kernel_rfl) ?_; intro w9 p9 l9 n9; replace l2 := l9.trans (congrArg (fun c => some (Obj.cells c 34 (0, 0))) (show _ = setCells s by kernel_rfl)); replace bel := p9.below bel (by omega); clear l9 n9 p9))
  exact bodyPost_ret (v := .agg (setCells s)) (results_cell_row Tryz.results18 _ _ _ _ (setCells s) _ _ rfl l2 Tryz.underlying34 rfl (by kernel_rfl)) rfl ⟨rfl, bel⟩
end Go.Proofs.YtddnphgpdnedbaaGreatDoor

namespace Go.Proofs.YtddnphgpdnedbaaGreatDoor
open Go.ChangeShapes Go.WideShapes Go.ChangeAt Go.RowKit
set_option linter.unusedVariables false

/-- What the model reads of a value that is no word. -/
def mvP (v : ByteArray) : Bool := decide (1 < v.size) && pcB v
def mvOk (v : ByteArray) : Bool := if autoB v then true else if mvP v then fitB (bodyOf (pcR v)) else readB v
def mvZ (v : ByteArray) : Sz := if autoB v then ⟨true, false, 0⟩ else if mvP v then ⟨false, true, if fitB (bodyOf (pcR v)) then signedH (pcR v) else 0⟩ else ⟨false, false, readN v⟩
theorem pc_last (t : ByteArray) (h : 1 < t.size) : pcB t = (((t[t.size - 1].toNat : Nat) : Int) == 37) := by
  have e : (t.extract (t.size - 1) t.size).toList = [t[t.size - 1]] := by
    rw [ByteArray.toList_eq]
    apply List.ext_getElem?
    intro i
    cases i with
    | zero => simp [ByteArray.getElem_eq_getElem_data]; rw [List.getElem?_take]; simp; omega
    | succ i => simp; omega
  unfold pcB
  rw [e, decide_eq_true (show 1 ≤ t.size by omega), Bool.true_and]
  rw [Bool.eq_iff_iff]
  simp only [beq_iff_eq, List.cons.injEq, and_true]
  constructor
  · intro k; rw [k]; rfl
  · intro k; exact UInt8.toNat_inj.1 (by have : t[t.size - 1].toNat = 37 := by omega
                                         rw [this]; rfl)

set_option maxHeartbeats 4000000 in
theorem value_auto (nm v : ByteArray) (w : World) (HW : ∀ w, Calls Tryz.prog 36 #[.string nm] w fun e w' => e = .returned (.slice none 0 0) ∧ w' = w) (h : (v.toList == [97, 117, 116, 111]) = true) :
    Calls Tryz.prog 17 #[.string nm, .string v] w fun e w' => e = .returned (.tuple #[.int .i64 0, .agg #[.bool true, .bool false, .int .i64 0], .bool true]) ∧ Below w.heap.size w w' := by
  go_enter Tryz.func17, Tryz.ntmps17
  go_wp2_with (go_at_call 36; refine (HW _).mono ?_; rintro e w1 ⟨rfl, rfl⟩)
  exact bodyPost_ret (v := .tuple #[.int .i64 0, .agg #[.bool true, .bool false, .int .i64 0], .bool true]) (by simp [results, Tryz.results17, go_sem]) rfl ⟨rfl, by repeat (first | exact Below.refl _ _ | refine Below.setCell ?_ (by first | (simp; done) | (simp; omega)) _ | refine Below.alloc ?_ (by first | (simp; done) | (simp; omega)) _ | refine below_drewN ?_ _)⟩
set_option maxHeartbeats 4000000 in
theorem value_pct (nm v : ByteArray) (w : World) (hs : v.size ≤ 1048576) (HW : ∀ w, Calls Tryz.prog 36 #[.string nm] w fun e w' => e = .returned (.slice none 0 0) ∧ w' = w) (h : (v.toList == [97, 117, 116, 111]) = false) (h1 : 1 < v.size) (h2 : (((v[v.size - 1].toNat : Nat) : Int) == 37) = true) :
    Calls Tryz.prog 17 #[.string nm, .string v] w fun e w' => e = .returned (.tuple #[.int .i64 0, .agg #[.bool false, .bool true, .int .i64 (if fitB (bodyOf (v.extract 0 (v.size - 1))) then signedH (v.extract 0 (v.size - 1)) else 0)], .bool (fitB (bodyOf (v.extract 0 (v.size - 1))))]) ∧ Below w.heap.size w w' := by
  have HH := fun w => hundredths_any (v.extract 0 (v.size - 1)) w (by simp; omega)
  generalize (if fitB (bodyOf (v.extract 0 (v.size - 1))) then signedH (v.extract 0 (v.size - 1)) else 0) = n at HH ⊢
  generalize fitB (bodyOf (v.extract 0 (v.size - 1))) = b at HH ⊢
  go_enter Tryz.func17, Tryz.ntmps17
  go_wp2_with (first
    | (go_at_call 36; refine (HW _).mono ?_; rintro e w1 ⟨rfl, rfl⟩)
    | (go_at_call 37; refine (HH _).mono ?_; rintro e w1 ⟨rfl, q, rfl⟩))
  exact bodyPost_ret (v := .tuple #[.int .i64 0, .agg #[.bool false, .bool true, .int .i64 n], .bool b]) (by simp [results, Tryz.results17, go_sem]) rfl ⟨rfl, by repeat (first | exact Below.refl _ _ | refine Below.setCell ?_ (by first | (simp; done) | (simp; omega)) _ | refine Below.alloc ?_ (by first | (simp; done) | (simp; omega)) _ | refine below_drewN ?_ _)⟩
set_option maxHeartbeats 4000000 in
theorem value_px (nm v : ByteArray) (w : World) (hs : v.size ≤ 1048576) (HW : ∀ w, Calls Tryz.prog 36 #[.string nm] w fun e w' => e = .returned (.slice none 0 0) ∧ w' = w) (h : (v.toList == [97, 117, 116, 111]) = false) (h1 : 1 < v.size) (h2 : (((v[v.size - 1].toNat : Nat) : Int) == 37) = false) :
    Calls Tryz.prog 17 #[.string nm, .string v] w fun e w' => e = .returned (.tuple #[.int .i64 0, .agg #[.bool false, .bool false, .int .i64 (readN v)], .bool (readB v)]) ∧ Below w.heap.size w w' := by
  have HH := fun w => spec_read v w hs
  generalize readN v = n at HH ⊢
  generalize readB v = b at HH ⊢
  go_enter Tryz.func17, Tryz.ntmps17
  go_wp2_with (first
    | (go_at_call 36; refine (HW _).mono ?_; rintro e w1 ⟨rfl, rfl⟩)
    | (go_at_call 38; refine (HH _).mono ?_; rintro e w1 ⟨rfl, q, rfl⟩)
    | (go_at_call 39; refine (l4Len_at _ _).mono ?_; rintro e w1 ⟨rfl, rfl⟩))
  exact bodyPost_ret (v := .tuple #[.int .i64 0, .agg #[.bool false, .bool false, .int .i64 n], .bool b]) (by simp [results, Tryz.results17, go_sem]) rfl ⟨rfl, by repeat (first | exact Below.refl _ _ | refine Below.setCell ?_ (by first | (simp; done) | (simp; omega)) _ | refine Below.alloc ?_ (by first | (simp; done) | (simp; omega)) _ | refine below_drewN ?_ _)⟩
set_option maxHeartbeats 4000000 in
theorem value_short (nm v : ByteArray) (w : World) (hs : v.size ≤ 1048576) (HW : ∀ w, Calls Tryz.prog 36 #[.string nm] w fun e w' => e = .returned (.slice none 0 0) ∧ w' = w) (h : (v.toList == [97, 117, 116, 111]) = false) (h1 : ¬ 1 < v.size) :
    Calls Tryz.prog 17 #[.string nm, .string v] w fun e w' => e = .returned (.tuple #[.int .i64 0, .agg #[.bool false, .bool false, .int .i64 (readN v)], .bool (readB v)]) ∧ Below w.heap.size w w' := by
  have HH := fun w => spec_read v w hs
  generalize readN v = n at HH ⊢
  generalize readB v = b at HH ⊢
  go_enter Tryz.func17, Tryz.ntmps17
  go_wp2_with (first
    | (go_at_call 36; refine (HW _).mono ?_; rintro e w1 ⟨rfl, rfl⟩)
    | (go_at_call 38; refine (HH _).mono ?_; rintro e w1 ⟨rfl, q, rfl⟩)
    | (go_at_call 39; refine (l4Len_at _ _).mono ?_; rintro e w1 ⟨rfl, rfl⟩))
  exact bodyPost_ret (v := .tuple #[.int .i64 0, .agg #[.bool false, .bool false, .int .i64 n], .bool b]) (by simp [results, Tryz.results17, go_sem]) rfl ⟨rfl, by repeat (first | exact Below.refl _ _ | refine Below.setCell ?_ (by first | (simp; done) | (simp; omega)) _ | refine Below.alloc ?_ (by first | (simp; done) | (simp; omega)) _ | refine below_drewN ?_ _)⟩
theorem value_plain (nm v : ByteArray) (w : World) (hs : v.size ≤ 1048576) (HW : ∀ w, Calls Tryz.prog 36 #[.string nm] w fun e w' => e = .returned (.slice none 0 0) ∧ w' = w) :
    Calls Tryz.prog 17 #[.string nm, .string v] w fun e w' => e = .returned (.tuple #[.int .i64 0, .agg #[.bool (mvZ v).a, .bool (mvZ v).p, .int .i64 (mvZ v).n], .bool (mvOk v)]) ∧ Below w.heap.size w w' := by
  cases h : autoB v
  rotate_left
  · simpa [mvZ, mvOk, h] using value_auto nm v w HW h
  by_cases h1 : 1 < v.size
  rotate_left
  · have e : mvP v = false := by simp [mvP, h1]
    simpa [mvZ, mvOk, h, e] using value_short nm v w hs HW h h1
  have hp := pc_last v h1
  cases h2 : pcB v
  · have e : mvP v = false := by simp [mvP, h2]
    rw [h2] at hp
    simpa [mvZ, mvOk, h, e] using value_px nm v w hs HW h h1 hp.symm
  · have e : mvP v = true := by simp [mvP, h2, h1]
    have e2 : pcR v = v.extract 0 (v.size - 1) := by simp [pcR, h2]
    rw [h2] at hp
    simpa [mvZ, mvOk, h, e, e2] using value_pct nm v w hs HW h h1 hp.symm
end Go.Proofs.YtddnphgpdnedbaaGreatDoor

namespace Go.Proofs.YtddnphgpdnedbaaGreatDoor
open Go.ChangeShapes Go.WideShapes Go.ChangeAt Go.RowKit
set_option linter.unusedVariables false

theorem words_apart : ∀ k, k < 18 → ∀ i, i < (wl k).length → ∀ j, j < (wl k).length → (wl k).getD i ByteArray.empty = (wl k).getD j ByteArray.empty → i = j := by decide +kernel
theorem words_few : ∀ k, k < 18 → (wl k).length ≤ 6 ∧ (isW k = true → 0 < (wl k).length) := by decide +kernel
set_option maxHeartbeats 4000000 in
theorem value_word (k : Nat) (hk : k < 18) (hw : isW k = true) (v : ByteArray) (w : World) :
    Calls Tryz.prog 17 #[.string (nmT k), .string v] w fun e w' => (∃ (n : Int) (b : Bool), e = .returned (.tuple #[.int .i64 n, .agg #[.bool false, .bool false, .int .i64 0], .bool b]) ∧ ∀ m, m < (wl k).length → (wl k).getD m ByteArray.empty = v → v.size ≠ 0 → b = true ∧ n = m) ∧ Below w.heap.size w w' := by
  have HW : ∀ w, Calls Tryz.prog 36 #[.string (nmT k)] w fun e w' => e = .returned (.slice (some ⟨w.heap.size, 0, none⟩) (wl k).length (wl k).length) ∧ w' = w.alloc (.cells ((wl k).map Value.string).toArray 9) := fun w => (words_any k hk w).mono fun e w' h => by
    rcases h with h | h
    · exact h.2
    · rw [hw] at h; exact absurd h.1 (by simp)
  have HA : Hid (∀ i, i < (wl k).length → ∀ j, j < (wl k).length → (wl k).getD i ByteArray.empty = (wl k).getD j ByteArray.empty → i = j) := words_apart k hk
  obtain ⟨l6, l0⟩ := words_few k hk
  replace l0 := l0 hw
  generalize nmT k = nm at HW ⊢
  generalize wl k = l at *
  clear hw hk
  generalize hn : l.length = n at *
  go_enter Tryz.func17, Tryz.ntmps17
  go_wp2_with (go_at_call 36; refine (HW _).mono ?_; rintro e w1 ⟨rfl, rfl⟩)
  go_loopw [21] (fun i wr => ∃ j : Nat, j ≤ n ∧ i = .int .i64 j ∧ (∀ q, q < j → l.getD q ByteArray.empty = v → v.size = 0) ∧ wr.heap[w.heap.size]? = some (.cells #[.bool false, .bool false, .int .i64 0] 32 (0, 0)) ∧ wr.heap[w.heap.size + 1]? = some (.cells (l.map Value.string).toArray 9 (0, 0)) ∧ Below w.heap.size w wr) (fun i _ => n - (intOf i).toNat)
  case atStart =>
    refine ⟨0, by omega, rfl, fun q h => absurd h (by omega), heap_in (heap_at _ _ _ rfl), heap_at _ _ _ (by simp), by repeat (first | assumption | exact Below.refl _ _ | refine Below.setCell ?_ (by first | (simp; done) | (simp; omega) | omega) _ | refine Below.alloc ?_ (by first | (simp; done) | (simp; omega)) _ | refine below_drewN ?_ _)⟩
  case round =>
    obtain ⟨j, hj, rfl, hno, lS, lN, bel⟩ := hrel
    have HNO : Hid (∀ q, q < j → l.getD q ByteArray.empty = v → v.size = 0) := hno
    have HN : Hid (l.length = n) := hn
    clear hno hn
    by_cases hlt : j < n
    rotate_left
    · go_wp2_with (first | ((with_reducible show wpList _ _ _ (⟨none, Op.store 32 _ _, _, _, _, _⟩ :: _) _ _); refine wpList_putA rfl _ _ _ rfl rfl _ 0 3 [.bool false, .bool false, .int .i64 0] _ _ rfl rfl lS rfl (by kernel_rfl) (by kernel_rfl) (by kernel_rfl) ?_; intro w9 p9 l9 n9; replace lS := l9.trans (congrArg (fun c => some (Obj.cells c 32 (0, 0))) (show _ = #[.bool false, .bool false, .int .i64 0] by kernel_rfl)); replace bel := p9.below bel (by omega); clear l9 n9 p9; have s0 : w9.cell? ⟨w.heap.size, 0, none⟩ = some (.bool false) := lies_cell lS 0; have s1 : w9.cell? ⟨w.heap.size, 1, none⟩ = some (.bool false) := lies_cell lS 1; have s2 : w9.cell? ⟨w.heap.size, 2, none⟩ = some (.int .i64 0) := lies_cell lS 2))
      exact bodyPost_ret (v := .tuple #[.int .i64 0, .agg #[.bool false, .bool false, .int .i64 0], .bool false]) (by simp [results, Tryz.results17, go_sem, s0, s1, s2]) rfl ⟨⟨0, false, rfl, fun m hm h1 h2 => absurd (HNO.out m (by omega) h1) h2⟩, bel⟩
    have c0 : wr.cell? ⟨w.heap.size + 1, j, none⟩ = some (.string (l.getD j ByteArray.empty)) := (lies_cell lN j).trans (by simp [List.getElem?_eq_getElem (show j < l.length by rw [HN.out]; exact hlt)])
    generalize hx : l.getD j ByteArray.empty = x at c0
    have HX : Hid (l.getD j ByteArray.empty = x) := hx
    clear hx
    by_cases hv : x = v
    · subst hv
      by_cases h0 : x.size = 0
      · have h1 : x.toList.isEmpty = true := by rw [ByteArray.toList_eq, List.isEmpty_iff_length_eq_zero]; simpa using h0
        have H0 : Hid (x.size = 0) := h0
        clear h0
        go_wp2_with (first | ((with_reducible show wpList _ _ _ (⟨none, Op.store 32 _ _, _, _, _, _⟩ :: _) _ _); refine wpList_putA rfl _ _ _ rfl rfl _ 0 3 [.bool false, .bool false, .int .i64 0] _ _ rfl rfl lS rfl (by kernel_rfl) (by kernel_rfl) (by kernel_rfl) ?_; intro w9 p9 l9 n9; replace lS := l9.trans (congrArg (fun c => some (Obj.cells c 32 (0, 0))) (show _ = #[.bool false, .bool false, .int .i64 0] by kernel_rfl)); replace bel := p9.below bel (by omega); clear l9 n9 p9; have s0 : w9.cell? ⟨w.heap.size, 0, none⟩ = some (.bool false) := lies_cell lS 0; have s1 : w9.cell? ⟨w.heap.size, 1, none⟩ = some (.bool false) := lies_cell lS 1; have s2 : w9.cell? ⟨w.heap.size, 2, none⟩ = some (.int .i64 0) := lies_cell lS 2))
        exact ⟨⟨j + 1, by omega, rfl, fun q _ _ => H0.out, lS, lN, bel⟩, by show n - (((j : Int) + 1)).toNat < n - ((j : Int)).toNat; omega⟩
      · have h1 : x.toList.isEmpty = false := by rw [← Bool.not_eq_true, ByteArray.toList_eq, List.isEmpty_iff_length_eq_zero]; simpa using h0
        clear h0
        go_wp2_with (first | ((with_reducible show wpList _ _ _ (⟨none, Op.store 32 _ _, _, _, _, _⟩ :: _) _ _); refine wpList_putA rfl _ _ _ rfl rfl _ 0 3 [.bool false, .bool false, .int .i64 0] _ _ rfl rfl lS rfl (by kernel_rfl) (by kernel_rfl) (by kernel_rfl) ?_; intro w9 p9 l9 n9; replace lS := l9.trans (congrArg (fun c => some (Obj.cells c 32 (0, 0))) (show _ = #[.bool false, .bool false, .int .i64 0] by kernel_rfl)); replace bel := p9.below bel (by omega); clear l9 n9 p9; have s0 : w9.cell? ⟨w.heap.size, 0, none⟩ = some (.bool false) := lies_cell lS 0; have s1 : w9.cell? ⟨w.heap.size, 1, none⟩ = some (.bool false) := lies_cell lS 1; have s2 : w9.cell? ⟨w.heap.size, 2, none⟩ = some (.int .i64 0) := lies_cell lS 2))
        exact bodyPost_ret (v := .tuple #[.int .i64 j, .agg #[.bool false, .bool false, .int .i64 0], .bool true]) (by simp [results, Tryz.results17, go_sem, s0, s1, s2]) rfl ⟨⟨j, true, rfl, fun m hm h1 h2 => ⟨rfl, by rw [HA.out m hm j hlt (h1.trans HX.out.symm)]⟩⟩, bel⟩
    · have h1 : (x.toList == v.toList) = false := by
        rw [beq_eq_false_iff_ne]
        intro h
        apply hv
        rw [ByteArray.toList_eq, ByteArray.toList_eq] at h
        exact ByteArray.ext (Array.toList_inj.1 h)
      have HV : Hid (x ≠ v) := hv
      clear hv
      go_wp2_with (first | ((with_reducible show wpList _ _ _ (⟨none, Op.store 32 _ _, _, _, _, _⟩ :: _) _ _); refine wpList_putA rfl _ _ _ rfl rfl _ 0 3 [.bool false, .bool false, .int .i64 0] _ _ rfl rfl lS rfl (by kernel_rfl) (by kernel_rfl) (by kernel_rfl) ?_; intro w9 p9 l9 n9; replace lS := l9.trans (congrArg (fun c => some (Obj.cells c 32 (0, 0))) (show _ = #[.bool false, .bool false, .int .i64 0] by kernel_rfl)); replace bel := p9.below bel (by omega); clear l9 n9 p9; have s0 : w9.cell? ⟨w.heap.size, 0, none⟩ = some (.bool false) := lies_cell lS 0; have s1 : w9.cell? ⟨w.heap.size, 1, none⟩ = some (.bool false) := lies_cell lS 1; have s2 : w9.cell? ⟨w.heap.size, 2, none⟩ = some (.int .i64 0) := lies_cell lS 2))
      refine ⟨⟨j + 1, by omega, rfl, fun q h2 h3 => ?_, lS, lN, bel⟩, by show n - (((j : Int) + 1)).toNat < n - ((j : Int)).toNat; omega⟩
      by_cases e : q = j
      · subst e; exact absurd (HX.out.symm.trans h3) HV.out
      · exact HNO.out q (by omega) h3
end Go.Proofs.YtddnphgpdnedbaaGreatDoor

namespace Go.Proofs.YtddnphgpdnedbaaGreatDoor
open Go.ChangeShapes Go.WideShapes Go.ChangeAt Go.RowKit
set_option linter.unusedVariables false

/-! ### Values that are told -/
theorem mv_pix {n : Int} (h : pixB n = true) : mvOk (pixText n) = true ∧ mvZ (pixText n) = ⟨false, false, n⟩ := by
  obtain ⟨r1, r2⟩ := comes_back n h
  have et : pixText n = (signText n ++ num (n.natAbs / 64) ++ quarter (n.natAbs % 64 / 16)) ++ ⟨#[112, 120]⟩ := by simp [pixText, h]
  obtain ⟨l1, l2⟩ := last_px (signText n ++ num (n.natAbs / 64) ++ quarter (n.natAbs % 64 / 16))
  rw [← et] at l1 l2
  have h3 : mvP (pixText n) = false := by unfold mvP; rw [l2, Bool.and_false]
  unfold mvOk mvZ
  rw [l1, h3, r1, r2]
  exact ⟨rfl, rfl⟩
theorem mv_pct {n : Int} (h0 : n.tmod 100 = 0) (g0 : -100000 ≤ n) (g1 : n ≤ 100000) : mvOk (numI (n.tdiv 100) ++ ⟨#[37]⟩) = true ∧ mvZ (numI (n.tdiv 100) ++ ⟨#[37]⟩) = ⟨false, true, n⟩ := by
  have hq : 100 * n.tdiv 100 + n.tmod 100 = n := Int.mul_tdiv_add_tmod n 100
  rw [h0] at hq
  generalize n.tdiv 100 = q at hq
  have eT : (numI q ++ ⟨#[37]⟩).toList = (numI q).data.toList ++ [37] := by rw [ByteArray.toList_eq]; simp
  have hA : autoB (numI q ++ ⟨#[37]⟩) = false := by
    unfold autoB
    rw [eT]
    refine beq_false_of_ne fun h => ?_
    have := congrArg List.getLast? h
    simp at this
  have hsz : (numI q ++ ⟨#[37]⟩).size - 1 = (numI q).size := by rw [ByteArray.size_append]; rfl
  have hP : pcB (numI q ++ ⟨#[37]⟩) = true := by
    unfold pcB
    rw [hsz, rear, ByteArray.size_append]
    have : 1 ≤ (numI q).size + (⟨#[37]⟩ : ByteArray).size := by show 1 ≤ _ + 1; omega
    rw [decide_eq_true this, ByteArray.toList_eq]
    rfl
  have hR : pcR (numI q ++ ⟨#[37]⟩) = numI q := by unfold pcR; rw [hP, if_pos rfl, hsz]; exact front _ _
  have key : ∃ u : Nat, u ≤ 1000 ∧ bodyOf (numI q) = num u ∧ (num u).size ≤ (numI q).size ∧ (if negB (numI q) then -(100 * (u : Int)) else 100 * (u : Int)) = n := by
    by_cases hneg : q < 0
    · obtain ⟨u, hu⟩ : ∃ u : Nat, q = -(u : Int) := ⟨q.natAbs, by omega⟩
      subst hu
      rw [numI_neg u (by omega)]
      obtain ⟨n1, n2⟩ := neg_reads (num u)
      exact ⟨u, by omega, n2, by rw [ByteArray.size_append]; omega, by rw [n1, if_pos rfl]; omega⟩
    · obtain ⟨u, hu⟩ : ∃ u : Nat, q = (u : Int) := ⟨q.toNat, by omega⟩
      subst hu
      rw [numI_pos]
      have e : num u = num u ++ ⟨#[]⟩ := by apply ByteArray.ext; simp
      obtain ⟨n1, n2⟩ := pos_reads u ⟨#[]⟩
      rw [← e] at n1 n2
      exact ⟨u, by omega, n2, Nat.le_refl _, by rw [n1, if_neg (by decide)]; omega⟩
  obtain ⟨u, hu, hb, hsu, hn⟩ := key
  have hd : digsB (num u) 5 = true := by
    have h4 := (l1Num_pow 3 u (by omega) (by omega)).1
    exact digsB_good (num_pos u) (by omega) (num_dig u)
  have hv : val (num u).data.toList = (u : Int) := by rw [num_list]; exact dec_val u
  obtain ⟨c1, c2, c3⟩ := cut_plain u
  have hF : fitB (bodyOf (numI q)) = true := by rw [hb]; unfold fitB; rw [c1, c2, hd]; rfl
  have hS : signedH (numI q) = n := by
    unfold signedH sumOf
    rw [hb, c2, c3, hv]
    have e0 : hund (⟨#[]⟩ : ByteArray) = 0 := rfl
    rw [e0, Int.add_zero]
    exact hn
  have hM : mvP (numI q ++ ⟨#[37]⟩) = true := by
    unfold mvP
    rw [hP, Bool.and_true]
    refine decide_eq_true ?_
    have := num_pos u
    rw [ByteArray.size_append]
    show 1 < _ + 1
    omega
  unfold mvOk mvZ
  rw [hA, hM, hR, hF, hS]
  exact ⟨rfl, rfl⟩
theorem mv_told {a p : Bool} {n : Int} (h : szB a p n = true ∨ (a = false ∧ p = false)) (ht : toldB a p n = true) : mvOk (toldT a p n) = true ∧ mvZ (toldT a p n) = ⟨a, p, n⟩ := by
  cases a
  · cases p
    · exact mv_pix ht
    · have h1 : inB (-100000) 100000 n = true := by
        rcases h with h | h
        · exact h
        · exact absurd h.2 (by decide)
      have h2 := inB_yes h1
      exact mv_pct (of_decide_eq_true ht) h2.1 h2.2
  · have h1 : (!p && decide (n = 0)) = true := by
      rcases h with h | h
      · exact h
      · exact absurd h.1 (by decide)
    rw [Bool.and_eq_true] at h1
    have hp : p = false := by simpa using h1.1
    have hn := of_decide_eq_true h1.2
    subst hp hn
    have hA : autoB (toldT true false 0) = true := by
      show autoB ⟨#[97, 117, 116, 111]⟩ = true
      unfold autoB
      rw [ByteArray.toList_eq]
      rfl
    unfold mvOk mvZ
    rw [hA]
    exact ⟨rfl, rfl⟩
theorem mv_tok {X : St} (hX : txtB X = true) {k : Nat} (hk : k < 18) (h : sameB X k = false) (hw : isW k = false) : mvOk (tokT X k) = true ∧ mvZ (tokT X k) = getZ X k := by
  unfold txtB at hX
  rw [Bool.and_eq_true] at hX
  have htk : tokB X k = true := by
    have := okTo_at hX.2 hk
    rw [h, Bool.false_or] at this
    exact this
  rw [tokB_plain X hk hw] at htk
  rw [tokT_plain X hk hw]
  cases hz : isZ k
  · exact mv_told (.inr (by rw [len_flat X hk hw hz]; exact ⟨rfl, rfl⟩)) htk
  · exact mv_told (.inl (sz_good X hk hX.1 hz)) htk

/-! ### Names -/
theorem names_inj : ∀ k, k < 18 → ∀ j, j < 18 → nmT k = nmT j → k = j := by decide +kernel
theorem list_ne {nm : ByteArray} {k : Nat} (h : nm ≠ nmT k) : (nm.toList == (nmT k).data.toList) = false := by
  refine beq_false_of_ne fun e => h ?_
  rw [ByteArray.toList_eq] at e
  exact ByteArray.ext (Array.toList_inj.1 e)

theorem value_any (nm v : ByteArray) (w : World) (hs : v.size ≤ 1048576) :
    Calls Tryz.prog 17 #[.string nm, .string v] w fun e w' => (∃ (n : Int) (z : Sz) (b : Bool), e = .returned (.tuple #[.int .i64 n, .agg #[.bool z.a, .bool z.p, .int .i64 z.n], .bool b]) ∧ ∀ j, j < 18 → ∀ X, txtB X = true → sameB X j = false → nm = nmT j → v = tokT X j → b = true ∧ n = getN X j ∧ z = getZ X j) ∧ Below w.heap.size w w' := by
  by_cases hk : ∃ k, k < 18 ∧ nm = nmT k
  · obtain ⟨k, hk, rfl⟩ := hk
    cases hw : isW k
    · have HW : ∀ w, Calls Tryz.prog 36 #[.string (nmT k)] w fun e w' => e = .returned (.slice none 0 0) ∧ w' = w := fun w => (words_any k hk w).mono fun e w' h => by
        rcases h with h | h
        · rw [hw] at h; exact absurd h.1 (by simp)
        · exact h.2
      refine (value_plain (nmT k) v w hs HW).mono fun e w' h => ⟨⟨0, mvZ v, mvOk v, h.1, fun j hj X hX hd he hv => ?_⟩, h.2⟩
      have := names_inj k hk j hj he
      subst this
      obtain ⟨m1, m2⟩ := mv_tok hX hj hd hw
      rw [hv, m1, m2, getN_flat X hj hw]
      exact ⟨rfl, rfl, rfl⟩
    · refine (value_word k hk hw v w).mono fun e w' h => ?_
      obtain ⟨⟨n, b, he, hm⟩, hb⟩ := h
      refine ⟨⟨n, ⟨false, false, 0⟩, b, he, fun j hj X hX hd he hv => ?_⟩, hb⟩
      have := names_inj k hk j hj he
      subst this
      unfold txtB at hX
      rw [Bool.and_eq_true] at hX
      obtain ⟨m, hgm, hl, h6, ha⟩ := word_at X hk hX.1 hw
      have h0 := word_low X hk hX.1 hw
      have eg : (wl k).getD m ByteArray.empty = tokT X k := by rw [List.getD_eq_getElem?_getD, ha]; rfl
      obtain ⟨q1, q2⟩ := hm m hl (eg.trans hv.symm) (by rw [hv]; exact h0)
      rw [q1, q2, hgm, getZ_word X hk hw]
      exact ⟨rfl, rfl, rfl⟩
  · have hn : ∀ k, k < 18 → nm ≠ nmT k := fun k h1 h2 => hk ⟨k, h1, h2⟩
    have HW := fun w => words_none nm w (list_ne (hn 0 (by omega))) (list_ne (hn 1 (by omega))) (list_ne (hn 2 (by omega))) (list_ne (hn 13 (by omega))) (list_ne (hn 14 (by omega)))
    exact (value_plain nm v w hs HW).mono fun e w' h => ⟨⟨0, mvZ v, mvOk v, h.1, fun j hj X hX hd he hv => absurd he (hn j hj)⟩, h.2⟩

theorem set_any (s : St) (nm : ByteArray) (n m : Int) (a p : Bool) (w : World) :
    Calls Tryz.prog 18 #[.agg (#[.int .i64 s.sh, .int .i64 s.fl, .int .i64 s.cl, .bool s.w.a, .bool s.w.p, .int .i64 s.w.n, .bool s.h.a, .bool s.h.p, .int .i64 s.h.n, .int .i64 s.mn, .int .i64 s.mx, .int .i64 s.mt, .bool s.mr.a, .bool s.mr.p, .int .i64 s.mr.n, .int .i64 s.mb, .bool s.ml.a, .bool s.ml.p, .int .i64 s.ml.n, .int .i64 s.bo, .int .i64 s.pa, .int .i64 s.wh, .int .i64 s.al, .int .i64 s.lh, .int .i64 s.ri, .int .i64 s.dn]), .string nm, .int .i64 n, .agg #[.bool a, .bool p, .int .i64 m]] w fun e w' => (∃ Y : St, e = .returned (.agg (setCells Y)) ∧ ∀ j, j < 18 → nm = nmT j → Y = setT s j n ⟨a, p, m⟩) ∧ Below w.heap.size w w' := by
  by_cases hk : ∃ k, k < 18 ∧ nm = nmT k
  rotate_left
  · have hn : ∀ k, k < 18 → nm ≠ nmT k := fun k h1 h2 => hk ⟨k, h1, h2⟩
    exact (set_none s nm n m a p w (list_ne (hn 0 (by omega))) (list_ne (hn 1 (by omega))) (list_ne (hn 2 (by omega))) (list_ne (hn 3 (by omega))) (list_ne (hn 4 (by omega))) (list_ne (hn 5 (by omega))) (list_ne (hn 6 (by omega))) (list_ne (hn 7 (by omega))) (list_ne (hn 8 (by omega))) (list_ne (hn 9 (by omega))) (list_ne (hn 10 (by omega))) (list_ne (hn 11 (by omega))) (list_ne (hn 12 (by omega))) (list_ne (hn 13 (by omega))) (list_ne (hn 14 (by omega))) (list_ne (hn 15 (by omega))) (list_ne (hn 16 (by omega))) (list_ne (hn 17 (by omega)))).mono fun e w' h => ⟨⟨s, h.1, fun j hj he => absurd he (hn j hj)⟩, h.2⟩
  obtain ⟨k, hk, rfl⟩ := hk
  rcases lt18 hk with rfl | rfl | rfl | rfl | rfl | rfl | rfl | rfl | rfl | rfl | rfl | rfl | rfl | rfl | rfl | rfl | rfl | rfl
  · exact (l4Set_0 s n m a p w).mono fun e w' h => ⟨⟨setT s 0 n ⟨a, p, m⟩, h.1, fun j hj he => by rw [names_inj 0 (by omega) j hj he]⟩, h.2⟩
  · exact (l4Set_1 s n m a p w).mono fun e w' h => ⟨⟨setT s 1 n ⟨a, p, m⟩, h.1, fun j hj he => by rw [names_inj 1 (by omega) j hj he]⟩, h.2⟩
  · exact (l4Set_2 s n m a p w).mono fun e w' h => ⟨⟨setT s 2 n ⟨a, p, m⟩, h.1, fun j hj he => by rw [names_inj 2 (by omega) j hj he]⟩, h.2⟩
  · exact (l4Set_3 s n m a p w).mono fun e w' h => ⟨⟨setT s 3 n ⟨a, p, m⟩, h.1, fun j hj he => by rw [names_inj 3 (by omega) j hj he]⟩, h.2⟩
  · exact (l4Set_4 s n m a p w).mono fun e w' h => ⟨⟨setT s 4 n ⟨a, p, m⟩, h.1, fun j hj he => by rw [names_inj 4 (by omega) j hj he]⟩, h.2⟩
  · exact (l4Set_5 s n m a p w).mono fun e w' h => ⟨⟨setT s 5 n ⟨a, p, m⟩, h.1, fun j hj he => by rw [names_inj 5 (by omega) j hj he]⟩, h.2⟩
  · exact (l4Set_6 s n m a p w).mono fun e w' h => ⟨⟨setT s 6 n ⟨a, p, m⟩, h.1, fun j hj he => by rw [names_inj 6 (by omega) j hj he]⟩, h.2⟩
  · exact (l4Set_7 s n m a p w).mono fun e w' h => ⟨⟨setT s 7 n ⟨a, p, m⟩, h.1, fun j hj he => by rw [names_inj 7 (by omega) j hj he]⟩, h.2⟩
  · exact (l4Set_8 s n m a p w).mono fun e w' h => ⟨⟨setT s 8 n ⟨a, p, m⟩, h.1, fun j hj he => by rw [names_inj 8 (by omega) j hj he]⟩, h.2⟩
  · exact (l4Set_9 s n m a p w).mono fun e w' h => ⟨⟨setT s 9 n ⟨a, p, m⟩, h.1, fun j hj he => by rw [names_inj 9 (by omega) j hj he]⟩, h.2⟩
  · exact (l4Set_10 s n m a p w).mono fun e w' h => ⟨⟨setT s 10 n ⟨a, p, m⟩, h.1, fun j hj he => by rw [names_inj 10 (by omega) j hj he]⟩, h.2⟩
  · exact (l4Set_11 s n m a p w).mono fun e w' h => ⟨⟨setT s 11 n ⟨a, p, m⟩, h.1, fun j hj he => by rw [names_inj 11 (by omega) j hj he]⟩, h.2⟩
  · exact (l4Set_12 s n m a p w).mono fun e w' h => ⟨⟨setT s 12 n ⟨a, p, m⟩, h.1, fun j hj he => by rw [names_inj 12 (by omega) j hj he]⟩, h.2⟩
  · exact (l4Set_13 s n m a p w).mono fun e w' h => ⟨⟨setT s 13 n ⟨a, p, m⟩, h.1, fun j hj he => by rw [names_inj 13 (by omega) j hj he]⟩, h.2⟩
  · exact (l4Set_14 s n m a p w).mono fun e w' h => ⟨⟨setT s 14 n ⟨a, p, m⟩, h.1, fun j hj he => by rw [names_inj 14 (by omega) j hj he]⟩, h.2⟩
  · exact (l4Set_15 s n m a p w).mono fun e w' h => ⟨⟨setT s 15 n ⟨a, p, m⟩, h.1, fun j hj he => by rw [names_inj 15 (by omega) j hj he]⟩, h.2⟩
  · exact (l4Set_16 s n m a p w).mono fun e w' h => ⟨⟨setT s 16 n ⟨a, p, m⟩, h.1, fun j hj he => by rw [names_inj 16 (by omega) j hj he]⟩, h.2⟩
  · exact (l4Set_17 s n m a p w).mono fun e w' h => ⟨⟨setT s 17 n ⟨a, p, m⟩, h.1, fun j hj he => by rw [names_inj 17 (by omega) j hj he]⟩, h.2⟩

/-! ### Texts -/
theorem c_cut_at (u v : ByteArray) (h : ∀ x ∈ u.data.toList, x ≠ 58) : c_dotB (u ++ (⟨#[58]⟩ ++ v)) = true ∧ c_wholeOf (u ++ (⟨#[58]⟩ ++ v)) = u ∧ c_partOf (u ++ (⟨#[58]⟩ ++ v)) = v := by
  have hx : Lib.indexByte (u ++ (⟨#[58]⟩ ++ v)).data.toList 58 = (u.size : Nat) := by
    have e : (u ++ (⟨#[58]⟩ ++ v)).data.toList = u.data.toList ++ 58 :: v.data.toList := by simp
    rw [e, idx_sign 58 _ _ h]
    simp
  obtain ⟨h1, h2, h3⟩ := c_cutOf_hit hx
  refine ⟨h1, h2.trans (front _ _), h3.trans ?_⟩
  have e : u ++ (⟨#[58]⟩ ++ v) = (u ++ ⟨#[58]⟩) ++ v := by rw [ByteArray.append_assoc]
  have es : u.size + 1 = (u ++ ⟨#[58]⟩).size := by rw [ByteArray.size_append]; rfl
  rw [e, es]
  exact rear _ _
theorem names_plain : ∀ k, k < 18 → plainT (nmT k) = true := by decide +kernel
theorem rest_next (X : St) : ∀ (n k : Nat), k + n = 18 → restT X k = ⟨#[]⟩ ∧ mixT X k = mixT X 18 ∨ ∃ j, k ≤ j ∧ j < 18 ∧ sameB X j = false ∧ restT X k = pieceT X j ++ restT X (j + 1) ∧ mixT X k = mixT X j
  | 0, k, h => by
    have : k = 18 := by omega
    subst this
    exact .inl ⟨rfl, rfl⟩
  | n + 1, k, h => by
    cases hs : sameB X k
    · exact .inr ⟨k, Nat.le_refl _, by omega, hs, rest_diff (by omega) hs, rfl⟩
    · rw [rest_same (by omega) hs, ← mix_same (by omega) hs]
      rcases rest_next X n (k + 1) (by omega) with h1 | ⟨j, h1, h2, h3, h4, h5⟩
      · exact .inl h1
      · exact .inr ⟨j, by omega, h2, h3, h4, h5⟩
/-- One thing cut off the front of a text that is told. -/
theorem step_cut {X : St} (hX : txtB X = true) {j : Nat} (hj : j < 18) (hd : sameB X j = false) {t r : ByteArray} (ht : t = pieceT X j ++ r) :
    s_dotB t = true ∧ s_partOf t = r ∧ c_dotB (s_wholeOf t) = true ∧ c_wholeOf (s_wholeOf t) = nmT j ∧ c_partOf (s_wholeOf t) = tokT X j := by
  have p1 := names_plain j hj
  have p2 := (tok_reads hX hj hd).2.2.2
  have e : t = (nmT j ++ (⟨#[58]⟩ ++ tokT X j)) ++ (⟨#[59]⟩ ++ r) := by
    rw [ht]
    unfold pieceT
    simp only [ByteArray.append_assoc]
  have n1 : ∀ x ∈ (nmT j ++ (⟨#[58]⟩ ++ tokT X j)).data.toList, x ≠ 59 := by
    intro x hx
    have e2 : (nmT j ++ (⟨#[58]⟩ ++ tokT X j)).data.toList = (nmT j).data.toList ++ 58 :: (tokT X j).data.toList := by simp
    rw [e2, List.mem_append, List.mem_cons] at hx
    rcases hx with h | rfl | h
    · exact (plainT_ne p1).1 x h
    · decide
    · exact (plainT_ne p2).1 x h
  obtain ⟨a1, a2, a3⟩ := s_cut_at _ r n1
  obtain ⟨b1, b2, b3⟩ := c_cut_at (nmT j) (tokT X j) (plainT_ne p1).2
  rw [e, a1, a2, a3, b1, b2, b3]
  exact ⟨rfl, rfl, rfl, rfl, rfl⟩
end Go.Proofs.YtddnphgpdnedbaaGreatDoor

namespace Go.Proofs.YtddnphgpdnedbaaGreatDoor
open Go.ChangeShapes Go.WideShapes Go.ChangeAt Go.RowKit
set_option linter.unusedVariables false

/-- What the model's loop holds. -/
def GhM (s t : ByteArray) (Y : St) : Prop := ∀ X, Rel s X → ∃ k, k ≤ 18 ∧ t = restT X k ∧ Y = mixT X k
theorem ghM_zero (s : ByteArray) : GhM s s plainS := fun X hX => ⟨0, by omega, by rw [rest_zero, hX.2], rfl⟩
theorem ghM_next {s t : ByteArray} {Y : St} (h : GhM s t Y) (ht : t.size ≠ 0) {X : St} (hX : Rel s X) : ∃ j, j < 18 ∧ sameB X j = false ∧ t = pieceT X j ++ restT X (j + 1) ∧ Y = mixT X j := by
  obtain ⟨k, hk, h1, h2⟩ := h X hX
  rcases rest_next X (18 - k) k (by omega) with ⟨h3, _⟩ | ⟨j, _, h4, h5, h6, h7⟩
  · rw [h1, h3] at ht; exact absurd rfl ht
  · exact ⟨j, h4, h5, h1.trans h6, h2.trans h7⟩
theorem piece_some (X : St) (j : Nat) (r : ByteArray) : (pieceT X j ++ r).size ≠ 0 := by
  unfold pieceT
  simp only [ByteArray.size_append]
  have : (⟨#[59]⟩ : ByteArray).size = 1 := rfl
  omega
theorem ghM_last {s t : ByteArray} {Y : St} (h : GhM s t Y) (ht : t.size = 0) : ∀ X, Rel s X → X = Y := fun X hX => by
  obtain ⟨k, hk, h1, h2⟩ := h X hX
  rcases rest_next X (18 - k) k (by omega) with ⟨_, h3⟩ | ⟨j, _, h4, h5, h6, h7⟩
  · rw [h2, h3, mix_all]
  · rw [h1, h6] at ht; exact absurd ht (piece_some X j _)
theorem ghM_cut {s t : ByteArray} {Y : St} (h : GhM s t Y) (ht : t.size ≠ 0) (hc : (s_dotB t && c_dotB (s_wholeOf t)) = false) : ¬ ∃ X, Rel s X := fun ⟨X, hX⟩ => by
  obtain ⟨j, h1, h2, h3, _⟩ := ghM_next h ht hX
  obtain ⟨c1, _, c3, _, _⟩ := step_cut hX.1 h1 h2 h3
  rw [c1, c3] at hc
  cases hc
/-- What l4Value says of a value that is told. -/
def ValAt (nm v : ByteArray) (n : Int) (z : Sz) (b : Bool) : Prop := ∀ j, j < 18 → ∀ X, txtB X = true → sameB X j = false → nm = nmT j → v = tokT X j → b = true ∧ n = getN X j ∧ z = getZ X j
theorem ghM_bad {s t : ByteArray} {Y : St} (h : GhM s t Y) (ht : t.size ≠ 0) {n : Int} {z : Sz} (hv : ValAt (c_wholeOf (s_wholeOf t)) (c_partOf (s_wholeOf t)) n z false) : ¬ ∃ X, Rel s X := fun ⟨X, hX⟩ => by
  obtain ⟨j, h1, h2, h3, _⟩ := ghM_next h ht hX
  obtain ⟨_, _, _, c4, c5⟩ := step_cut hX.1 h1 h2 h3
  have := (hv j h1 X hX.1 h2 c4 c5).1
  cases this
theorem ghM_good {s t : ByteArray} {Y Y2 : St} (h : GhM s t Y) (ht : t.size ≠ 0) {n : Int} {z : Sz} {b : Bool} (hv : ValAt (c_wholeOf (s_wholeOf t)) (c_partOf (s_wholeOf t)) n z b) (hY : ∀ j, j < 18 → c_wholeOf (s_wholeOf t) = nmT j → Y2 = setT Y j n z) : GhM s (s_partOf t) Y2 := fun X hX => by
  obtain ⟨j, h1, h2, h3, h4⟩ := ghM_next h ht hX
  obtain ⟨_, c2, _, c4, c5⟩ := step_cut hX.1 h1 h2 h3
  obtain ⟨_, v2, v3⟩ := hv j h1 X hX.1 h2 c4 c5
  refine ⟨j + 1, by omega, c2, ?_⟩
  rw [hY j h1 c4, h4, v2, v3]
  rfl
theorem s_part_less {t : ByteArray} (h : s_dotB t = true) (ht : t.size ≠ 0) : (s_partOf t).size < t.size := by
  unfold s_partOf
  rw [if_pos h, ByteArray.size_extract]
  omega

set_option maxRecDepth 100000 in
set_option maxHeartbeats 8000000 in
theorem specReadStyle_any (s : ByteArray) (w : World) (hs : s.size ≤ 1048576) :
    Calls Tryz.prog 10 #[.string s] w fun e w' => ((∃ Y : St, e = .returned (.tuple #[.agg (#[.int .i64 Y.sh, .int .i64 Y.fl, .int .i64 Y.cl, .bool Y.w.a, .bool Y.w.p, .int .i64 Y.w.n, .bool Y.h.a, .bool Y.h.p, .int .i64 Y.h.n, .int .i64 Y.mn, .int .i64 Y.mx, .int .i64 Y.mt, .bool Y.mr.a, .bool Y.mr.p, .int .i64 Y.mr.n, .int .i64 Y.mb, .bool Y.ml.a, .bool Y.ml.p, .int .i64 Y.ml.n, .int .i64 Y.bo, .int .i64 Y.pa, .int .i64 Y.wh, .int .i64 Y.al, .int .i64 Y.lh, .int .i64 Y.ri, .int .i64 Y.dn]), .bool true]) ∧ Rel s Y ∧ ∀ X, Rel s X → X = Y) ∨ (e = .returned (.tuple #[.agg (#[.int .i64 0, .int .i64 0, .int .i64 0, .bool false, .bool false, .int .i64 0, .bool false, .bool false, .int .i64 0, .int .i64 0, .int .i64 0, .int .i64 0, .bool false, .bool false, .int .i64 0, .int .i64 0, .bool false, .bool false, .int .i64 0, .int .i64 0, .int .i64 0, .int .i64 0, .int .i64 0, .int .i64 0, .int .i64 0, .int .i64 0]), .bool false]) ∧ ¬ ∃ X, Rel s X)) ∧ Below w.heap.size w w' := by
  go_enter Tryz.func10, Tryz.ntmps10
  go_wp2_with (first
    | (go_at_call 16; refine (specPlain_at _).mono ?_; rintro e w2 ⟨rfl, rfl⟩)
    | ((with_reducible show wpList _ _ _ (⟨none, Op.store 34 (Operand.tmp 4) (Operand.tmp 17), _, _, _, _⟩ :: _) _ _); refine wpList_store_new rfl 34 _ _ rfl rfl (#[.int .i64 1, .int .i64 0, .int .i64 0, .bool true, .bool false, .int .i64 0, .bool true, .bool false, .int .i64 0, .int .i64 0, .int .i64 (-1), .int .i64 0, .bool false, .bool false, .int .i64 0, .int .i64 0, .bool false, .bool false, .int .i64 0, .int .i64 0, .int .i64 0, .int .i64 1, .int .i64 1, .int .i64 0, .int .i64 0, .int .i64 0]) 34 _ _ (by simp) rfl rfl (by kernel_rfl) rfl (by kernel_rfl) ?_))
  go_loopw [5] (fun r wr => ∃ (t : ByteArray) (Y : St), r = .string t ∧ t.size ≤ s.size ∧ GhM s t Y ∧ wr.heap[w.heap.size]? = some (.cells (#[.int .i64 0, .int .i64 0, .int .i64 0, .bool false, .bool false, .int .i64 0, .bool false, .bool false, .int .i64 0, .int .i64 0, .int .i64 0, .int .i64 0, .bool false, .bool false, .int .i64 0, .int .i64 0, .bool false, .bool false, .int .i64 0, .int .i64 0, .int .i64 0, .int .i64 0, .int .i64 0, .int .i64 0, .int .i64 0, .int .i64 0]) 34 (0, 0)) ∧ wr.heap[w.heap.size + 1 + 1]? = some (.cells (#[.int .i64 Y.sh, .int .i64 Y.fl, .int .i64 Y.cl, .bool Y.w.a, .bool Y.w.p, .int .i64 Y.w.n, .bool Y.h.a, .bool Y.h.p, .int .i64 Y.h.n, .int .i64 Y.mn, .int .i64 Y.mx, .int .i64 Y.mt, .bool Y.mr.a, .bool Y.mr.p, .int .i64 Y.mr.n, .int .i64 Y.mb, .bool Y.ml.a, .bool Y.ml.p, .int .i64 Y.ml.n, .int .i64 Y.bo, .int .i64 Y.pa, .int .i64 Y.wh, .int .i64 Y.al, .int .i64 Y.lh, .int .i64 Y.ri, .int .i64 Y.dn]) 34 (0, 0)) ∧ Below w.heap.size w wr) (fun r _ => match r with | .string t => t.size | _ => 0)
  case atStart => exact ⟨s, plainS, rfl, Nat.le_refl _, ghM_zero s, heap_in (heap_in (heap_at _ _ _ rfl)), heap_at _ _ _ (by simp), (((Below.refl _ _).alloc (Nat.le_refl _) _).alloc (by simp) _).alloc (by simp; omega) _⟩
  case round =>
    obtain ⟨t, Y, rfl, ht, hgh, lz, ly, bel⟩ := hrel
    have HGH : Hid (GhM s t Y) := hgh
    have ltt := lies_lt ly
    have n0 : (#[.int .i64 0, .int .i64 0, .int .i64 0, .bool false, .bool false, .int .i64 0, .bool false, .bool false, .int .i64 0, .int .i64 0, .int .i64 0, .int .i64 0, .bool false, .bool false, .int .i64 0, .int .i64 0, .bool false, .bool false, .int .i64 0, .int .i64 0, .int .i64 0, .int .i64 0, .int .i64 0, .int .i64 0, .int .i64 0, .int .i64 0] : Array Value).size = 26 := rfl
    have n1 : (#[.int .i64 Y.sh, .int .i64 Y.fl, .int .i64 Y.cl, .bool Y.w.a, .bool Y.w.p, .int .i64 Y.w.n, .bool Y.h.a, .bool Y.h.p, .int .i64 Y.h.n, .int .i64 Y.mn, .int .i64 Y.mx, .int .i64 Y.mt, .bool Y.mr.a, .bool Y.mr.p, .int .i64 Y.mr.n, .int .i64 Y.mb, .bool Y.ml.a, .bool Y.ml.p, .int .i64 Y.ml.n, .int .i64 Y.bo, .int .i64 Y.pa, .int .i64 Y.wh, .int .i64 Y.al, .int .i64 Y.lh, .int .i64 Y.ri, .int .i64 Y.dn] : Array Value).size = 26 := rfl
    clear hgh
    by_cases h0 : t.size = 0
    · have h1 : t.toList.isEmpty = true := by rw [ByteArray.toList_eq, List.isEmpty_iff_length_eq_zero]; simpa using h0
      have HX : Hid (∀ X, Rel s X → X = Y) := ghM_last HGH.out h0
      have TS := fun W => specStyleText_any Y W
      clear h0
      go_wp2_with ((with_reducible show wpList _ _ _ (⟨some 57, Op.load 34 _, _, _, _, _⟩ :: _) _ _); refine wpList_load_row rfl 34 _ rfl (w.heap.size + 1 + 1) rfl _ (#[.int .i64 Y.sh, .int .i64 Y.fl, .int .i64 Y.cl, .bool Y.w.a, .bool Y.w.p, .int .i64 Y.w.n, .bool Y.h.a, .bool Y.h.p, .int .i64 Y.h.n, .int .i64 Y.mn, .int .i64 Y.mx, .int .i64 Y.mt, .bool Y.mr.a, .bool Y.mr.p, .int .i64 Y.mr.n, .int .i64 Y.mb, .bool Y.ml.a, .bool Y.ml.p, .int .i64 Y.ml.n, .int .i64 Y.bo, .int .i64 Y.pa, .int .i64 Y.wh, .int .i64 Y.al, .int .i64 Y.lh, .int .i64 Y.ri, .int .i64 Y.dn]) _ _ ly Tryz.underlying34 rfl (by kernel_rfl) ?_)
      refine (TS _).mono ?_
      rintro e w1 ⟨rfl, hb⟩
      replace bel := bel.trans (hb.mono bel.size)
      replace lz := below_lies hb lz (by omega)
      replace ly := below_lies hb ly (by omega)
      clear TS hb h1
      cases hB : txtB Y
      · have HN : Hid (¬ ∃ X, Rel s X) := fun ⟨X, hX⟩ => by
          have e := HX.out X hX
          subst e
          rw [hX.1] at hB
          cases hB
        generalize txtT Y = T
        clear hB ly
        go_wp2_with (first
          | ((with_reducible show wpList _ _ _ (⟨some 68, Op.build 34 _, _, _, _, _⟩ :: _) _ _); refine wpList_buildTo rfl 34 _ rfl _ rfl (#[.int .i64 0, .int .i64 0, .int .i64 0, .bool false, .bool false, .int .i64 0, .bool false, .bool false, .int .i64 0, .int .i64 0, .int .i64 0, .int .i64 0, .bool false, .bool false, .int .i64 0, .int .i64 0, .bool false, .bool false, .int .i64 0, .int .i64 0, .int .i64 0, .int .i64 0, .int .i64 0, .int .i64 0, .int .i64 0, .int .i64 0]) (by kernel_rfl) ?_)
          | ((with_reducible show wpList _ _ _ (⟨none, Op.store 34 _ _, _, _, _, _⟩ :: _) _ _); refine wpList_putA rfl _ _ _ rfl rfl _ _ _ _ _ _ rfl rfl lz n0 (by kernel_rfl) (by kernel_rfl) (by kernel_rfl) ?_; intro w3 p l3 n3; refine stay_p ?_))
        have b3 := p.below bel (Nat.le_refl _)
        unfold stayP
        go_wp2
        exact bodyPost_ret (v := .tuple #[.agg (#[.int .i64 0, .int .i64 0, .int .i64 0, .bool false, .bool false, .int .i64 0, .bool false, .bool false, .int .i64 0, .int .i64 0, .int .i64 0, .int .i64 0, .bool false, .bool false, .int .i64 0, .int .i64 0, .bool false, .bool false, .int .i64 0, .int .i64 0, .int .i64 0, .int .i64 0, .int .i64 0, .int .i64 0, .int .i64 0, .int .i64 0]), .bool false]) (results_row_tmp Tryz.results10 _ _ _ _ (#[.int .i64 0, .int .i64 0, .int .i64 0, .bool false, .bool false, .int .i64 0, .bool false, .bool false, .int .i64 0, .int .i64 0, .int .i64 0, .int .i64 0, .bool false, .bool false, .int .i64 0, .int .i64 0, .bool false, .bool false, .int .i64 0, .int .i64 0, .int .i64 0, .int .i64 0, .int .i64 0, .int .i64 0, .int .i64 0, .int .i64 0]) _ _ _ rfl (l3.trans (congrArg (fun c => some (Obj.cells c 34 (0, 0))) (show _ = (#[.int .i64 0, .int .i64 0, .int .i64 0, .bool false, .bool false, .int .i64 0, .bool false, .bool false, .int .i64 0, .int .i64 0, .int .i64 0, .int .i64 0, .bool false, .bool false, .int .i64 0, .int .i64 0, .bool false, .bool false, .int .i64 0, .int .i64 0, .int .i64 0, .int .i64 0, .int .i64 0, .int .i64 0, .int .i64 0, .int .i64 0] : Array Value) by kernel_rfl))) Tryz.underlying34 rfl (by kernel_rfl) rfl) rfl ⟨.inr ⟨rfl, HN.out⟩, b3⟩
      have e2 : txtT Y = textTo Y 18 := by unfold txtT; rw [hB]; rfl
      rw [e2]
      by_cases hts : textTo Y 18 = s
      · have HR : Hid (Rel s Y) := ⟨hB, hts⟩
        have hq1 : ((textTo Y 18).toList == s.toList) = true := by rw [hts]; simp
        generalize textTo Y 18 = T at hq1 ⊢
        clear hts e2 hB
        go_wp2_with (first
          | ((with_reducible show wpList _ _ _ (⟨some 69, Op.load 34 _, _, _, _, _⟩ :: _) _ _); refine wpList_load_row rfl 34 _ rfl (w.heap.size + 1 + 1) rfl _ (#[.int .i64 Y.sh, .int .i64 Y.fl, .int .i64 Y.cl, .bool Y.w.a, .bool Y.w.p, .int .i64 Y.w.n, .bool Y.h.a, .bool Y.h.p, .int .i64 Y.h.n, .int .i64 Y.mn, .int .i64 Y.mx, .int .i64 Y.mt, .bool Y.mr.a, .bool Y.mr.p, .int .i64 Y.mr.n, .int .i64 Y.mb, .bool Y.ml.a, .bool Y.ml.p, .int .i64 Y.ml.n, .int .i64 Y.bo, .int .i64 Y.pa, .int .i64 Y.wh, .int .i64 Y.al, .int .i64 Y.lh, .int .i64 Y.ri, .int .i64 Y.dn]) _ _ ly Tryz.underlying34 rfl (by kernel_rfl) ?_)
          | ((with_reducible show wpList _ _ _ (⟨none, Op.store 34 _ _, _, _, _, _⟩ :: _) _ _); refine wpList_putA rfl _ _ _ rfl rfl _ _ _ _ _ _ rfl rfl lz n0 (by kernel_rfl) (by kernel_rfl) (by kernel_rfl) ?_; intro w3 p l3 n3; refine stay_p ?_))
        have b3 := p.below bel (Nat.le_refl _)
        unfold stayP
        go_wp2
        exact bodyPost_ret (v := .tuple #[.agg (#[.int .i64 Y.sh, .int .i64 Y.fl, .int .i64 Y.cl, .bool Y.w.a, .bool Y.w.p, .int .i64 Y.w.n, .bool Y.h.a, .bool Y.h.p, .int .i64 Y.h.n, .int .i64 Y.mn, .int .i64 Y.mx, .int .i64 Y.mt, .bool Y.mr.a, .bool Y.mr.p, .int .i64 Y.mr.n, .int .i64 Y.mb, .bool Y.ml.a, .bool Y.ml.p, .int .i64 Y.ml.n, .int .i64 Y.bo, .int .i64 Y.pa, .int .i64 Y.wh, .int .i64 Y.al, .int .i64 Y.lh, .int .i64 Y.ri, .int .i64 Y.dn]), .bool true]) (results_row_tmp Tryz.results10 _ _ _ _ (#[.int .i64 Y.sh, .int .i64 Y.fl, .int .i64 Y.cl, .bool Y.w.a, .bool Y.w.p, .int .i64 Y.w.n, .bool Y.h.a, .bool Y.h.p, .int .i64 Y.h.n, .int .i64 Y.mn, .int .i64 Y.mx, .int .i64 Y.mt, .bool Y.mr.a, .bool Y.mr.p, .int .i64 Y.mr.n, .int .i64 Y.mb, .bool Y.ml.a, .bool Y.ml.p, .int .i64 Y.ml.n, .int .i64 Y.bo, .int .i64 Y.pa, .int .i64 Y.wh, .int .i64 Y.al, .int .i64 Y.lh, .int .i64 Y.ri, .int .i64 Y.dn]) _ _ _ rfl (l3.trans (congrArg (fun c => some (Obj.cells c 34 (0, 0))) (show _ = (#[.int .i64 Y.sh, .int .i64 Y.fl, .int .i64 Y.cl, .bool Y.w.a, .bool Y.w.p, .int .i64 Y.w.n, .bool Y.h.a, .bool Y.h.p, .int .i64 Y.h.n, .int .i64 Y.mn, .int .i64 Y.mx, .int .i64 Y.mt, .bool Y.mr.a, .bool Y.mr.p, .int .i64 Y.mr.n, .int .i64 Y.mb, .bool Y.ml.a, .bool Y.ml.p, .int .i64 Y.ml.n, .int .i64 Y.bo, .int .i64 Y.pa, .int .i64 Y.wh, .int .i64 Y.al, .int .i64 Y.lh, .int .i64 Y.ri, .int .i64 Y.dn] : Array Value) by kernel_rfl))) Tryz.underlying34 rfl (by kernel_rfl) rfl) rfl ⟨.inl ⟨Y, rfl, HR.out, HX.out⟩, b3⟩
      · have HN : Hid (¬ ∃ X, Rel s X) := fun ⟨X, hX⟩ => hts (by have e := HX.out X hX; subst e; exact hX.2)
        have hq1 : ((textTo Y 18).toList == s.toList) = false := by
          exact beq_false_of_ne (fun h => hts (by rw [ByteArray.toList_eq, ByteArray.toList_eq] at h; exact ByteArray.ext (Array.toList_inj.1 h)))
        generalize textTo Y 18 = T at hq1 ⊢
        clear hts e2 hB ly
        go_wp2_with (first
          | ((with_reducible show wpList _ _ _ (⟨some 68, Op.build 34 _, _, _, _, _⟩ :: _) _ _); refine wpList_buildTo rfl 34 _ rfl _ rfl (#[.int .i64 0, .int .i64 0, .int .i64 0, .bool false, .bool false, .int .i64 0, .bool false, .bool false, .int .i64 0, .int .i64 0, .int .i64 0, .int .i64 0, .bool false, .bool false, .int .i64 0, .int .i64 0, .bool false, .bool false, .int .i64 0, .int .i64 0, .int .i64 0, .int .i64 0, .int .i64 0, .int .i64 0, .int .i64 0, .int .i64 0]) (by kernel_rfl) ?_)
          | ((with_reducible show wpList _ _ _ (⟨none, Op.store 34 _ _, _, _, _, _⟩ :: _) _ _); refine wpList_putA rfl _ _ _ rfl rfl _ _ _ _ _ _ rfl rfl lz n0 (by kernel_rfl) (by kernel_rfl) (by kernel_rfl) ?_; intro w3 p l3 n3; refine stay_p ?_))
        have b3 := p.below bel (Nat.le_refl _)
        unfold stayP
        go_wp2
        exact bodyPost_ret (v := .tuple #[.agg (#[.int .i64 0, .int .i64 0, .int .i64 0, .bool false, .bool false, .int .i64 0, .bool false, .bool false, .int .i64 0, .int .i64 0, .int .i64 0, .int .i64 0, .bool false, .bool false, .int .i64 0, .int .i64 0, .bool false, .bool false, .int .i64 0, .int .i64 0, .int .i64 0, .int .i64 0, .int .i64 0, .int .i64 0, .int .i64 0, .int .i64 0]), .bool false]) (results_row_tmp Tryz.results10 _ _ _ _ (#[.int .i64 0, .int .i64 0, .int .i64 0, .bool false, .bool false, .int .i64 0, .bool false, .bool false, .int .i64 0, .int .i64 0, .int .i64 0, .int .i64 0, .bool false, .bool false, .int .i64 0, .int .i64 0, .bool false, .bool false, .int .i64 0, .int .i64 0, .int .i64 0, .int .i64 0, .int .i64 0, .int .i64 0, .int .i64 0, .int .i64 0]) _ _ _ rfl (l3.trans (congrArg (fun c => some (Obj.cells c 34 (0, 0))) (show _ = (#[.int .i64 0, .int .i64 0, .int .i64 0, .bool false, .bool false, .int .i64 0, .bool false, .bool false, .int .i64 0, .int .i64 0, .int .i64 0, .int .i64 0, .bool false, .bool false, .int .i64 0, .int .i64 0, .bool false, .bool false, .int .i64 0, .int .i64 0, .int .i64 0, .int .i64 0, .int .i64 0, .int .i64 0, .int .i64 0, .int .i64 0] : Array Value) by kernel_rfl))) Tryz.underlying34 rfl (by kernel_rfl) rfl) rfl ⟨.inr ⟨rfl, HN.out⟩, b3⟩
    have HT0 : Hid (t.size ≠ 0) := h0
    have h1 : t.toList.isEmpty = false := by rw [← Bool.not_eq_true, ByteArray.toList_eq, List.isEmpty_iff_length_eq_zero]; simpa using h0
    clear h0
    have SC := fun W => s_l1Cut_any t W (by omega)
    have CC := fun W => c_l1Cut_any (s_wholeOf t) W (by have := s_whole_size t; omega)
    go_wp2_with fail
    refine (SC _).mono ?_
    rintro e w1 ⟨rfl, q, rfl⟩
    go_wp2_with fail
    refine (CC _).mono ?_
    rintro e w1 ⟨rfl, q2, rfl⟩
    replace bel := below_drewN (below_drewN bel q) q2
    replace lz : ((wr.drewN q).drewN q2).heap[w.heap.size]? = some (.cells (#[.int .i64 0, .int .i64 0, .int .i64 0, .bool false, .bool false, .int .i64 0, .bool false, .bool false, .int .i64 0, .int .i64 0, .int .i64 0, .int .i64 0, .bool false, .bool false, .int .i64 0, .int .i64 0, .bool false, .bool false, .int .i64 0, .int .i64 0, .int .i64 0, .int .i64 0, .int .i64 0, .int .i64 0, .int .i64 0, .int .i64 0]) 34 (0, 0)) := lz
    replace ly : ((wr.drewN q).drewN q2).heap[w.heap.size + 1 + 1]? = some (.cells (#[.int .i64 Y.sh, .int .i64 Y.fl, .int .i64 Y.cl, .bool Y.w.a, .bool Y.w.p, .int .i64 Y.w.n, .bool Y.h.a, .bool Y.h.p, .int .i64 Y.h.n, .int .i64 Y.mn, .int .i64 Y.mx, .int .i64 Y.mt, .bool Y.mr.a, .bool Y.mr.p, .int .i64 Y.mr.n, .int .i64 Y.mb, .bool Y.ml.a, .bool Y.ml.p, .int .i64 Y.ml.n, .int .i64 Y.bo, .int .i64 Y.pa, .int .i64 Y.wh, .int .i64 Y.al, .int .i64 Y.lh, .int .i64 Y.ri, .int .i64 Y.dn]) 34 (0, 0)) := ly
    replace ltt : w.heap.size + 1 + 1 < ((wr.drewN q).drewN q2).heap.size := ltt
    generalize (wr.drewN q).drewN q2 = W at bel lz ly ltt ⊢
    clear SC CC h1
    cases hc : (s_dotB t && c_dotB (s_wholeOf t))
    · have HN : Hid (¬ ∃ X, Rel s X) := ghM_cut HGH.out HT0.out hc
      generalize s_dotB t = d1 at hc ⊢
      generalize c_dotB (s_wholeOf t) = d2 at hc ⊢
      clear HGH HT0 ly
      cases d1
      ·
        go_wp2_with (first
          | ((with_reducible show wpList _ _ _ (⟨some 39, Op.build 34 _, _, _, _, _⟩ :: _) _ _); refine wpList_buildTo rfl 34 _ rfl _ rfl (#[.int .i64 0, .int .i64 0, .int .i64 0, .bool false, .bool false, .int .i64 0, .bool false, .bool false, .int .i64 0, .int .i64 0, .int .i64 0, .int .i64 0, .bool false, .bool false, .int .i64 0, .int .i64 0, .bool false, .bool false, .int .i64 0, .int .i64 0, .int .i64 0, .int .i64 0, .int .i64 0, .int .i64 0, .int .i64 0, .int .i64 0]) (by kernel_rfl) ?_)
          | ((with_reducible show wpList _ _ _ (⟨none, Op.store 34 _ _, _, _, _, _⟩ :: _) _ _); refine wpList_putA rfl _ _ _ rfl rfl _ _ _ _ _ _ rfl rfl lz n0 (by kernel_rfl) (by kernel_rfl) (by kernel_rfl) ?_; intro w3 p l3 n3; refine stay_p ?_))
        have b3 := p.below bel (Nat.le_refl _)
        unfold stayP
        go_wp2
        exact bodyPost_ret (v := .tuple #[.agg (#[.int .i64 0, .int .i64 0, .int .i64 0, .bool false, .bool false, .int .i64 0, .bool false, .bool false, .int .i64 0, .int .i64 0, .int .i64 0, .int .i64 0, .bool false, .bool false, .int .i64 0, .int .i64 0, .bool false, .bool false, .int .i64 0, .int .i64 0, .int .i64 0, .int .i64 0, .int .i64 0, .int .i64 0, .int .i64 0, .int .i64 0]), .bool false]) (results_row_tmp Tryz.results10 _ _ _ _ (#[.int .i64 0, .int .i64 0, .int .i64 0, .bool false, .bool false, .int .i64 0, .bool false, .bool false, .int .i64 0, .int .i64 0, .int .i64 0, .int .i64 0, .bool false, .bool false, .int .i64 0, .int .i64 0, .bool false, .bool false, .int .i64 0, .int .i64 0, .int .i64 0, .int .i64 0, .int .i64 0, .int .i64 0, .int .i64 0, .int .i64 0]) _ _ _ rfl (l3.trans (congrArg (fun c => some (Obj.cells c 34 (0, 0))) (show _ = (#[.int .i64 0, .int .i64 0, .int .i64 0, .bool false, .bool false, .int .i64 0, .bool false, .bool false, .int .i64 0, .int .i64 0, .int .i64 0, .int .i64 0, .bool false, .bool false, .int .i64 0, .int .i64 0, .bool false, .bool false, .int .i64 0, .int .i64 0, .int .i64 0, .int .i64 0, .int .i64 0, .int .i64 0, .int .i64 0, .int .i64 0] : Array Value) by kernel_rfl))) Tryz.underlying34 rfl (by kernel_rfl) rfl) rfl ⟨.inr ⟨rfl, HN.out⟩, b3⟩
      have hd2 : d2 = false := by simpa using hc
      subst hd2
      clear hc
      go_wp2_with (first
        | ((with_reducible show wpList _ _ _ (⟨some 39, Op.build 34 _, _, _, _, _⟩ :: _) _ _); refine wpList_buildTo rfl 34 _ rfl _ rfl (#[.int .i64 0, .int .i64 0, .int .i64 0, .bool false, .bool false, .int .i64 0, .bool false, .bool false, .int .i64 0, .int .i64 0, .int .i64 0, .int .i64 0, .bool false, .bool false, .int .i64 0, .int .i64 0, .bool false, .bool false, .int .i64 0, .int .i64 0, .int .i64 0, .int .i64 0, .int .i64 0, .int .i64 0, .int .i64 0, .int .i64 0]) (by kernel_rfl) ?_)
        | ((with_reducible show wpList _ _ _ (⟨none, Op.store 34 _ _, _, _, _, _⟩ :: _) _ _); refine wpList_putA rfl _ _ _ rfl rfl _ _ _ _ _ _ rfl rfl lz n0 (by kernel_rfl) (by kernel_rfl) (by kernel_rfl) ?_; intro w3 p l3 n3; refine stay_p ?_))
      have b3 := p.below bel (Nat.le_refl _)
      unfold stayP
      go_wp2
      exact bodyPost_ret (v := .tuple #[.agg (#[.int .i64 0, .int .i64 0, .int .i64 0, .bool false, .bool false, .int .i64 0, .bool false, .bool false, .int .i64 0, .int .i64 0, .int .i64 0, .int .i64 0, .bool false, .bool false, .int .i64 0, .int .i64 0, .bool false, .bool false, .int .i64 0, .int .i64 0, .int .i64 0, .int .i64 0, .int .i64 0, .int .i64 0, .int .i64 0, .int .i64 0]), .bool false]) (results_row_tmp Tryz.results10 _ _ _ _ (#[.int .i64 0, .int .i64 0, .int .i64 0, .bool false, .bool false, .int .i64 0, .bool false, .bool false, .int .i64 0, .int .i64 0, .int .i64 0, .int .i64 0, .bool false, .bool false, .int .i64 0, .int .i64 0, .bool false, .bool false, .int .i64 0, .int .i64 0, .int .i64 0, .int .i64 0, .int .i64 0, .int .i64 0, .int .i64 0, .int .i64 0]) _ _ _ rfl (l3.trans (congrArg (fun c => some (Obj.cells c 34 (0, 0))) (show _ = (#[.int .i64 0, .int .i64 0, .int .i64 0, .bool false, .bool false, .int .i64 0, .bool false, .bool false, .int .i64 0, .int .i64 0, .int .i64 0, .int .i64 0, .bool false, .bool false, .int .i64 0, .int .i64 0, .bool false, .bool false, .int .i64 0, .int .i64 0, .int .i64 0, .int .i64 0, .int .i64 0, .int .i64 0, .int .i64 0, .int .i64 0] : Array Value) by kernel_rfl))) Tryz.underlying34 rfl (by kernel_rfl) rfl) rfl ⟨.inr ⟨rfl, HN.out⟩, b3⟩
    rw [Bool.and_eq_true] at hc
    rw [hc.1, hc.2]
    have HL : Hid ((s_partOf t).size < t.size) := s_part_less hc.1 HT0.out
    clear hc
    have VA := fun W => value_any (c_wholeOf (s_wholeOf t)) (c_partOf (s_wholeOf t)) W (by have := s_whole_size t; have := c_part_size (s_wholeOf t); omega)
    go_wp2_with fail
    refine (VA _).mono ?_
    rintro e w1 ⟨⟨n, z, b, rfl, hv⟩, hb⟩
    have HV : Hid (ValAt (c_wholeOf (s_wholeOf t)) (c_partOf (s_wholeOf t)) n z b) := hv
    replace bel := bel.trans (hb.mono bel.size)
    replace lz := below_lies hb lz (by omega)
    replace ly := below_lies hb ly (by omega)
    replace ltt := lies_lt ly
    clear hb hv VA
    go_wp2_with ((with_reducible show wpList _ _ _ (⟨none, Op.store 32 (Operand.tmp 13) _, _, _, _, _⟩ :: _) _ _); refine wpList_store_new rfl 32 _ _ rfl rfl (#[.bool z.a, .bool z.p, .int .i64 z.n]) 32 _ _ rfl rfl rfl (by kernel_rfl) rfl (by kernel_rfl) ?_; refine wpList_gen1R ?_; intro W2 b2 l13; refine stay_p ?_)
    replace bel := bel.trans (b2.mono bel.size)
    replace lz := below_lies b2 lz (by omega)
    replace ly := below_lies b2 ly (by omega)
    have lt3 := lies_lt l13
    unfold stayP
    clear b2
    cases b
    · have HN : Hid (¬ ∃ X, Rel s X) := ghM_bad HGH.out HT0.out HV.out
      clear HGH HT0 ly HV
      go_wp2_with (first
        | ((with_reducible show wpList _ _ _ (⟨some 49, Op.build 34 _, _, _, _, _⟩ :: _) _ _); refine wpList_buildTo rfl 34 _ rfl _ rfl (#[.int .i64 0, .int .i64 0, .int .i64 0, .bool false, .bool false, .int .i64 0, .bool false, .bool false, .int .i64 0, .int .i64 0, .int .i64 0, .int .i64 0, .bool false, .bool false, .int .i64 0, .int .i64 0, .bool false, .bool false, .int .i64 0, .int .i64 0, .int .i64 0, .int .i64 0, .int .i64 0, .int .i64 0, .int .i64 0, .int .i64 0]) (by kernel_rfl) ?_)
        | ((with_reducible show wpList _ _ _ (⟨none, Op.store 34 _ _, _, _, _, _⟩ :: _) _ _); refine wpList_putA rfl _ _ _ rfl rfl _ _ _ _ _ _ rfl rfl lz n0 (by kernel_rfl) (by kernel_rfl) (by kernel_rfl) ?_; intro w3 p l3 n3; refine stay_p ?_))
      have b3 := p.below bel (Nat.le_refl _)
      unfold stayP
      go_wp2
      exact bodyPost_ret (v := .tuple #[.agg (#[.int .i64 0, .int .i64 0, .int .i64 0, .bool false, .bool false, .int .i64 0, .bool false, .bool false, .int .i64 0, .int .i64 0, .int .i64 0, .int .i64 0, .bool false, .bool false, .int .i64 0, .int .i64 0, .bool false, .bool false, .int .i64 0, .int .i64 0, .int .i64 0, .int .i64 0, .int .i64 0, .int .i64 0, .int .i64 0, .int .i64 0]), .bool false]) (results_row_tmp Tryz.results10 _ _ _ _ (#[.int .i64 0, .int .i64 0, .int .i64 0, .bool false, .bool false, .int .i64 0, .bool false, .bool false, .int .i64 0, .int .i64 0, .int .i64 0, .int .i64 0, .bool false, .bool false, .int .i64 0, .int .i64 0, .bool false, .bool false, .int .i64 0, .int .i64 0, .int .i64 0, .int .i64 0, .int .i64 0, .int .i64 0, .int .i64 0, .int .i64 0]) _ _ _ rfl (l3.trans (congrArg (fun c => some (Obj.cells c 34 (0, 0))) (show _ = (#[.int .i64 0, .int .i64 0, .int .i64 0, .bool false, .bool false, .int .i64 0, .bool false, .bool false, .int .i64 0, .int .i64 0, .int .i64 0, .int .i64 0, .bool false, .bool false, .int .i64 0, .int .i64 0, .bool false, .bool false, .int .i64 0, .int .i64 0, .int .i64 0, .int .i64 0, .int .i64 0, .int .i64 0, .int .i64 0, .int .i64 0] : Array Value) by kernel_rfl))) Tryz.underlying34 rfl (by kernel_rfl) rfl) rfl ⟨.inr ⟨rfl, HN.out⟩, b3⟩
    have SA := fun W => set_any Y (c_wholeOf (s_wholeOf t)) n z.n z.a z.p W
    go_wp2_with (first
      | ((with_reducible show wpList _ _ _ (⟨some 50, Op.load 34 _, _, _, _, _⟩ :: _) _ _); refine wpList_load_row rfl 34 _ rfl (w.heap.size + 1 + 1) rfl _ (#[.int .i64 Y.sh, .int .i64 Y.fl, .int .i64 Y.cl, .bool Y.w.a, .bool Y.w.p, .int .i64 Y.w.n, .bool Y.h.a, .bool Y.h.p, .int .i64 Y.h.n, .int .i64 Y.mn, .int .i64 Y.mx, .int .i64 Y.mt, .bool Y.mr.a, .bool Y.mr.p, .int .i64 Y.mr.n, .int .i64 Y.mb, .bool Y.ml.a, .bool Y.ml.p, .int .i64 Y.ml.n, .int .i64 Y.bo, .int .i64 Y.pa, .int .i64 Y.wh, .int .i64 Y.al, .int .i64 Y.lh, .int .i64 Y.ri, .int .i64 Y.dn]) _ _ ly Tryz.underlying34 rfl (by kernel_rfl) ?_)
      | ((with_reducible show wpList _ _ _ (⟨some 53, Op.load 32 _, _, _, _, _⟩ :: _) _ _); refine wpList_load_row rfl 32 _ rfl w1.heap.size rfl _ (#[.bool z.a, .bool z.p, .int .i64 z.n]) _ _ l13 Tryz.underlying32 rfl (by kernel_rfl) ?_))
    refine (SA _).mono ?_
    rintro e w4 ⟨⟨Y2, rfl, hY⟩, hb⟩
    have HN : Hid (GhM s (s_partOf t) Y2) := ghM_good HGH.out HT0.out HV.out hY
    replace bel := bel.trans (hb.mono bel.size)
    replace lz := below_lies hb lz (by omega)
    replace ly := below_lies hb ly (by omega)
    replace ltt := lies_lt ly
    clear hb hY SA HGH HV l13
    go_wp2_with ((with_reducible show wpList _ _ _ (⟨none, Op.store 34 _ _, _, _, _, _⟩ :: _) _ _); refine wpList_putA rfl _ _ _ rfl rfl _ 0 26 (setCells Y2).toList _ _ rfl rfl ly n1 (by kernel_rfl) (by kernel_rfl) (by kernel_rfl) ?_; intro w5 p l5 n5; refine stay_p ?_)
    replace bel := p.below bel (by omega)
    replace lz := p.lies lz (by omega)
    replace ly := l5.trans (congrArg (fun c => some (Obj.cells c 34 (0, 0))) (show _ = (let Y := Y2; #[.int .i64 Y.sh, .int .i64 Y.fl, .int .i64 Y.cl, .bool Y.w.a, .bool Y.w.p, .int .i64 Y.w.n, .bool Y.h.a, .bool Y.h.p, .int .i64 Y.h.n, .int .i64 Y.mn, .int .i64 Y.mx, .int .i64 Y.mt, .bool Y.mr.a, .bool Y.mr.p, .int .i64 Y.mr.n, .int .i64 Y.mb, .bool Y.ml.a, .bool Y.ml.p, .int .i64 Y.ml.n, .int .i64 Y.bo, .int .i64 Y.pa, .int .i64 Y.wh, .int .i64 Y.al, .int .i64 Y.lh, .int .i64 Y.ri, .int .i64 Y.dn] : Array Value) by kernel_rfl))
    unfold stayP
    have hls := HL.out
    go_wp2
    go_roundw
    case rel => exact ⟨s_partOf t, Y2, rfl, by omega, HN.out, lz, ly, bel⟩
    case measure => exact HL.out
end Go.Proofs.YtddnphgpdnedbaaGreatDoor
