/-
  The law's own copy of a style is that style.
-/
import Derived.Test.YtddnphgpdnedbaaDoorSty
import Derived.WalkKit
import Derived.ProofKit
import Derived.OpenShut
import Derived.WalkSpells
import Derived.WalkLawsBesides
import Derived.Deep.QuietTactic
import Derived.BigQuiet
import Derived.Great.Walk
namespace Go.Proofs.YtddnphgpdnedbaaDoor
open Go.ChangeShapes Go.WideShapes Go.ChangeAt Go.RowKit
set_option linter.unusedVariables false

set_option maxRecDepth 100000 in
set_option maxHeartbeats 4000000 in
theorem toStyle_any (s : St) (w : World) :
    Calls Tryd.prog 29 #[.agg #[.int .i64 s.sh, .int .i64 s.fl, .int .i64 s.cl, .bool s.w.a, .bool s.w.p, .int .i64 s.w.n, .bool s.h.a, .bool s.h.p, .int .i64 s.h.n, .int .i64 s.mn, .int .i64 s.mx, .int .i64 s.mt, .bool s.mr.a, .bool s.mr.p, .int .i64 s.mr.n, .int .i64 s.mb, .bool s.ml.a, .bool s.ml.p, .int .i64 s.ml.n, .int .i64 s.bo, .int .i64 s.pa, .int .i64 s.wh, .int .i64 s.al, .int .i64 s.lh, .int .i64 s.ri, .int .i64 s.dn]] w fun e w' => e = .returned (.agg #[.int .i64 s.sh, .int .i64 s.fl, .int .i64 s.cl, .bool s.w.a, .bool s.w.p, .int .i64 s.w.n, .bool s.h.a, .bool s.h.p, .int .i64 s.h.n, .int .i64 s.mn, .int .i64 s.mx, .int .i64 s.mt, .bool s.mr.a, .bool s.mr.p, .int .i64 s.mr.n, .int .i64 s.mb, .bool s.ml.a, .bool s.ml.p, .int .i64 s.ml.n, .int .i64 s.bo, .int .i64 s.pa, .int .i64 s.wh, .int .i64 s.al, .int .i64 s.lh, .int .i64 s.ri, .int .i64 s.dn]) ∧ Below w.heap.size w w' := by
  go_enter Tryd.func29, Tryd.ntmps29
  iterate 20 go_step
  refine wp_gen3 ?_
  intro W bel l0 l1 l2
  have hc := lies_cell l0
  have n1 : (#[.int .i64 0, .int .i64 0, .int .i64 0, .bool false, .bool false, .int .i64 0, .bool false, .bool false, .int .i64 0, .int .i64 0, .int .i64 0, .int .i64 0, .bool false, .bool false, .int .i64 0, .int .i64 0, .bool false, .bool false, .int .i64 0, .int .i64 0, .int .i64 0, .int .i64 0, .int .i64 0, .int .i64 0, .int .i64 0, .int .i64 0] : Array Value).size = 26 := rfl
  have n2 := n1
  iterate 11 go_step
  refine wpList_putA rfl _ _ _ rfl rfl _ _ _ _ _ _ rfl rfl l2 n2 (by kernel_rfl) (by kernel_rfl) (by kernel_rfl) ?_
  clear n2; intro w1 p l2' n2; replace l2 := l2'; clear l2'; replace bel := p.below bel (by omega); replace l1 := p.lies l1 (by omega); replace l0 := p.lies l0 (by omega); clear p; replace hc := lies_cell l0
  iterate 3 go_step
  iterate 11 go_step
  refine wpList_putA rfl _ _ _ rfl rfl _ _ _ _ _ _ rfl rfl l2 n2 (by kernel_rfl) (by kernel_rfl) (by kernel_rfl) ?_
  clear n2; intro w1 p l2' n2; replace l2 := l2'; clear l2'; replace bel := p.below bel (by omega); replace l1 := p.lies l1 (by omega); replace l0 := p.lies l0 (by omega); clear p; replace hc := lies_cell l0
  iterate 3 go_step
  iterate 11 go_step
  refine wpList_putA rfl _ _ _ rfl rfl _ _ _ _ _ _ rfl rfl l2 n2 (by kernel_rfl) (by kernel_rfl) (by kernel_rfl) ?_
  clear n2; intro w1 p l2' n2; replace l2 := l2'; clear l2'; replace bel := p.below bel (by omega); replace l1 := p.lies l1 (by omega); replace l0 := p.lies l0 (by omega); clear p; replace hc := lies_cell l0
  iterate 3 go_step
  go_wp2_with fail
  refine (toSize_any _ _ _ _).mono ?_
  rintro e w1 ⟨rfl, hb⟩
  replace bel := bel.trans (hb.mono (Nat.le_of_lt (lies_lt l0))); replace l2 := below_lies hb l2 (lies_lt l2); replace l1 := below_lies hb l1 (lies_lt l1); replace l0 := below_lies hb l0 (lies_lt l0); clear hb; replace hc := lies_cell l0
  dsimp only
  iterate 4 go_step
  refine wpList_putA rfl _ _ _ rfl rfl _ _ _ _ _ _ rfl rfl l2 n2 (by kernel_rfl) (by kernel_rfl) (by kernel_rfl) ?_
  clear n2; intro w1 p l2' n2; replace l2 := l2'; clear l2'; replace bel := p.below bel (by omega); replace l1 := p.lies l1 (by omega); replace l0 := p.lies l0 (by omega); clear p; replace hc := lies_cell l0
  iterate 3 go_step
  go_wp2_with fail
  refine (toSize_any _ _ _ _).mono ?_
  rintro e w1 ⟨rfl, hb⟩
  replace bel := bel.trans (hb.mono (Nat.le_of_lt (lies_lt l0))); replace l2 := below_lies hb l2 (lies_lt l2); replace l1 := below_lies hb l1 (lies_lt l1); replace l0 := below_lies hb l0 (lies_lt l0); clear hb; replace hc := lies_cell l0
  dsimp only
  iterate 4 go_step
  refine wpList_putA rfl _ _ _ rfl rfl _ _ _ _ _ _ rfl rfl l2 n2 (by kernel_rfl) (by kernel_rfl) (by kernel_rfl) ?_
  clear n2; intro w1 p l2' n2; replace l2 := l2'; clear l2'; replace bel := p.below bel (by omega); replace l1 := p.lies l1 (by omega); replace l0 := p.lies l0 (by omega); clear p; replace hc := lies_cell l0
  iterate 3 go_step
  iterate 11 go_step
  refine wpList_putA rfl _ _ _ rfl rfl _ _ _ _ _ _ rfl rfl l2 n2 (by kernel_rfl) (by kernel_rfl) (by kernel_rfl) ?_
  clear n2; intro w1 p l2' n2; replace l2 := l2'; clear l2'; replace bel := p.below bel (by omega); replace l1 := p.lies l1 (by omega); replace l0 := p.lies l0 (by omega); clear p; replace hc := lies_cell l0
  iterate 3 go_step
  iterate 11 go_step
  refine wpList_putA rfl _ _ _ rfl rfl _ _ _ _ _ _ rfl rfl l2 n2 (by kernel_rfl) (by kernel_rfl) (by kernel_rfl) ?_
  clear n2; intro w1 p l2' n2; replace l2 := l2'; clear l2'; replace bel := p.below bel (by omega); replace l1 := p.lies l1 (by omega); replace l0 := p.lies l0 (by omega); clear p; replace hc := lies_cell l0
  iterate 3 go_step
  iterate 11 go_step
  refine wpList_putA rfl _ _ _ rfl rfl _ _ _ _ _ _ rfl rfl l2 n2 (by kernel_rfl) (by kernel_rfl) (by kernel_rfl) ?_
  clear n2; intro w1 p l2' n2; replace l2 := l2'; clear l2'; replace bel := p.below bel (by omega); replace l1 := p.lies l1 (by omega); replace l0 := p.lies l0 (by omega); clear p; replace hc := lies_cell l0
  iterate 3 go_step
  go_wp2_with fail
  refine (toSize_any _ _ _ _).mono ?_
  rintro e w1 ⟨rfl, hb⟩
  replace bel := bel.trans (hb.mono (Nat.le_of_lt (lies_lt l0))); replace l2 := below_lies hb l2 (lies_lt l2); replace l1 := below_lies hb l1 (lies_lt l1); replace l0 := below_lies hb l0 (lies_lt l0); clear hb; replace hc := lies_cell l0
  dsimp only
  iterate 4 go_step
  refine wpList_putA rfl _ _ _ rfl rfl _ _ _ _ _ _ rfl rfl l2 n2 (by kernel_rfl) (by kernel_rfl) (by kernel_rfl) ?_
  clear n2; intro w1 p l2' n2; replace l2 := l2'; clear l2'; replace bel := p.below bel (by omega); replace l1 := p.lies l1 (by omega); replace l0 := p.lies l0 (by omega); clear p; replace hc := lies_cell l0
  iterate 3 go_step
  iterate 11 go_step
  refine wpList_putA rfl _ _ _ rfl rfl _ _ _ _ _ _ rfl rfl l2 n2 (by kernel_rfl) (by kernel_rfl) (by kernel_rfl) ?_
  clear n2; intro w1 p l2' n2; replace l2 := l2'; clear l2'; replace bel := p.below bel (by omega); replace l1 := p.lies l1 (by omega); replace l0 := p.lies l0 (by omega); clear p; replace hc := lies_cell l0
  iterate 3 go_step
  go_wp2_with fail
  refine (toSize_any _ _ _ _).mono ?_
  rintro e w1 ⟨rfl, hb⟩
  replace bel := bel.trans (hb.mono (Nat.le_of_lt (lies_lt l0))); replace l2 := below_lies hb l2 (lies_lt l2); replace l1 := below_lies hb l1 (lies_lt l1); replace l0 := below_lies hb l0 (lies_lt l0); clear hb; replace hc := lies_cell l0
  dsimp only
  iterate 4 go_step
  refine wpList_putA rfl _ _ _ rfl rfl _ _ _ _ _ _ rfl rfl l2 n2 (by kernel_rfl) (by kernel_rfl) (by kernel_rfl) ?_
  clear n2; intro w1 p l2' n2; replace l2 := l2'; clear l2'; replace bel := p.below bel (by omega); replace l1 := p.lies l1 (by omega); replace l0 := p.lies l0 (by omega); clear p; replace hc := lies_cell l0
  iterate 3 go_step
  iterate 11 go_step
  refine wpList_putA rfl _ _ _ rfl rfl _ _ _ _ _ _ rfl rfl l2 n2 (by kernel_rfl) (by kernel_rfl) (by kernel_rfl) ?_
  clear n2; intro w1 p l2' n2; replace l2 := l2'; clear l2'; replace bel := p.below bel (by omega); replace l1 := p.lies l1 (by omega); replace l0 := p.lies l0 (by omega); clear p; replace hc := lies_cell l0
  iterate 3 go_step
  iterate 11 go_step
  refine wpList_putA rfl _ _ _ rfl rfl _ _ _ _ _ _ rfl rfl l2 n2 (by kernel_rfl) (by kernel_rfl) (by kernel_rfl) ?_
  clear n2; intro w1 p l2' n2; replace l2 := l2'; clear l2'; replace bel := p.below bel (by omega); replace l1 := p.lies l1 (by omega); replace l0 := p.lies l0 (by omega); clear p; replace hc := lies_cell l0
  iterate 3 go_step
  iterate 11 go_step
  refine wpList_putA rfl _ _ _ rfl rfl _ _ _ _ _ _ rfl rfl l2 n2 (by kernel_rfl) (by kernel_rfl) (by kernel_rfl) ?_
  clear n2; intro w1 p l2' n2; replace l2 := l2'; clear l2'; replace bel := p.below bel (by omega); replace l1 := p.lies l1 (by omega); replace l0 := p.lies l0 (by omega); clear p; replace hc := lies_cell l0
  iterate 3 go_step
  iterate 11 go_step
  refine wpList_putA rfl _ _ _ rfl rfl _ _ _ _ _ _ rfl rfl l2 n2 (by kernel_rfl) (by kernel_rfl) (by kernel_rfl) ?_
  clear n2; intro w1 p l2' n2; replace l2 := l2'; clear l2'; replace bel := p.below bel (by omega); replace l1 := p.lies l1 (by omega); replace l0 := p.lies l0 (by omega); clear p; replace hc := lies_cell l0
  iterate 3 go_step
  iterate 11 go_step
  refine wpList_putA rfl _ _ _ rfl rfl _ _ _ _ _ _ rfl rfl l2 n2 (by kernel_rfl) (by kernel_rfl) (by kernel_rfl) ?_
  clear n2; intro w1 p l2' n2; replace l2 := l2'; clear l2'; replace bel := p.below bel (by omega); replace l1 := p.lies l1 (by omega); replace l0 := p.lies l0 (by omega); clear p; replace hc := lies_cell l0
  iterate 3 go_step
  iterate 11 go_step
  refine wpList_putA rfl _ _ _ rfl rfl _ _ _ _ _ _ rfl rfl l2 n2 (by kernel_rfl) (by kernel_rfl) (by kernel_rfl) ?_
  clear n2; intro w1 p l2' n2; replace l2 := l2'; clear l2'; replace bel := p.below bel (by omega); replace l1 := p.lies l1 (by omega); replace l0 := p.lies l0 (by omega); clear p; replace hc := lies_cell l0
  iterate 3 go_step
  iterate 11 go_step
  refine wpList_putA rfl _ _ _ rfl rfl _ _ _ _ _ _ rfl rfl l2 n2 (by kernel_rfl) (by kernel_rfl) (by kernel_rfl) ?_
  clear n2; intro w1 p l2' n2; replace l2 := l2'; clear l2'; replace bel := p.below bel (by omega); replace l1 := p.lies l1 (by omega); replace l0 := p.lies l0 (by omega); clear p; replace hc := lies_cell l0
  iterate 3 go_step
  iterate 2 go_step
  replace l2 := l2.trans (congrArg (fun c => some (Obj.cells c 40 (0, 0))) (show _ = #[.int .i64 s.sh, .int .i64 s.fl, .int .i64 s.cl, .bool s.w.a, .bool s.w.p, .int .i64 s.w.n, .bool s.h.a, .bool s.h.p, .int .i64 s.h.n, .int .i64 s.mn, .int .i64 s.mx, .int .i64 s.mt, .bool s.mr.a, .bool s.mr.p, .int .i64 s.mr.n, .int .i64 s.mb, .bool s.ml.a, .bool s.ml.p, .int .i64 s.ml.n, .int .i64 s.bo, .int .i64 s.pa, .int .i64 s.wh, .int .i64 s.al, .int .i64 s.lh, .int .i64 s.ri, .int .i64 s.dn] by kernel_rfl))
  refine wpList_load_row rfl 40 _ rfl _ rfl _ (#[.int .i64 s.sh, .int .i64 s.fl, .int .i64 s.cl, .bool s.w.a, .bool s.w.p, .int .i64 s.w.n, .bool s.h.a, .bool s.h.p, .int .i64 s.h.n, .int .i64 s.mn, .int .i64 s.mx, .int .i64 s.mt, .bool s.mr.a, .bool s.mr.p, .int .i64 s.mr.n, .int .i64 s.mb, .bool s.ml.a, .bool s.ml.p, .int .i64 s.ml.n, .int .i64 s.bo, .int .i64 s.pa, .int .i64 s.wh, .int .i64 s.al, .int .i64 s.lh, .int .i64 s.ri, .int .i64 s.dn]) _ _ l2 Tryd.underlying40 rfl (by kernel_rfl) ?_
  refine wpList_putA rfl _ _ _ rfl rfl _ _ _ _ _ _ rfl rfl l1 n1 (by kernel_rfl) (by kernel_rfl) (by kernel_rfl) ?_
  intro w2 p l3 n3
  replace l3 := l3.trans (congrArg (fun c => some (Obj.cells c 40 (0, 0))) (show _ = #[.int .i64 s.sh, .int .i64 s.fl, .int .i64 s.cl, .bool s.w.a, .bool s.w.p, .int .i64 s.w.n, .bool s.h.a, .bool s.h.p, .int .i64 s.h.n, .int .i64 s.mn, .int .i64 s.mx, .int .i64 s.mt, .bool s.mr.a, .bool s.mr.p, .int .i64 s.mr.n, .int .i64 s.mb, .bool s.ml.a, .bool s.ml.p, .int .i64 s.ml.n, .int .i64 s.bo, .int .i64 s.pa, .int .i64 s.wh, .int .i64 s.al, .int .i64 s.lh, .int .i64 s.ri, .int .i64 s.dn] by kernel_rfl))
  replace bel := p.below bel (by omega)
  clear p hc l2 l1 l0 n1 n2 n3
  go_wp2
  exact bodyPost_ret (v := .agg #[.int .i64 s.sh, .int .i64 s.fl, .int .i64 s.cl, .bool s.w.a, .bool s.w.p, .int .i64 s.w.n, .bool s.h.a, .bool s.h.p, .int .i64 s.h.n, .int .i64 s.mn, .int .i64 s.mx, .int .i64 s.mt, .bool s.mr.a, .bool s.mr.p, .int .i64 s.mr.n, .int .i64 s.mb, .bool s.ml.a, .bool s.ml.p, .int .i64 s.ml.n, .int .i64 s.bo, .int .i64 s.pa, .int .i64 s.wh, .int .i64 s.al, .int .i64 s.lh, .int .i64 s.ri, .int .i64 s.dn]) (results_cell_row Tryd.results29 _ _ _ _ (#[.int .i64 s.sh, .int .i64 s.fl, .int .i64 s.cl, .bool s.w.a, .bool s.w.p, .int .i64 s.w.n, .bool s.h.a, .bool s.h.p, .int .i64 s.h.n, .int .i64 s.mn, .int .i64 s.mx, .int .i64 s.mt, .bool s.mr.a, .bool s.mr.p, .int .i64 s.mr.n, .int .i64 s.mb, .bool s.ml.a, .bool s.ml.p, .int .i64 s.ml.n, .int .i64 s.bo, .int .i64 s.pa, .int .i64 s.wh, .int .i64 s.al, .int .i64 s.lh, .int .i64 s.ri, .int .i64 s.dn]) _ _ rfl l3 Tryd.underlying40 rfl (by kernel_rfl)) rfl ⟨rfl, bel⟩
end Go.Proofs.YtddnphgpdnedbaaDoor
