/-
  The model's look-ups at a name that is none of the eighteen.
-/
import Derived.Test.YtdgagjnkbmckoaaGreatDoorGhC
import Derived.Test.YtdgagjnkbmckoaaGreatDoorSetK
import Derived.Test.YtdgagjnkbmckoaaGreatDoorTxtS
import Derived.Test.YtdgagjnkbmckoaaGreatDoorCutC
namespace Go.Proofs.YtdgagjnkbmckoaaGreatDoor
open Go.ChangeShapes Go.WideShapes Go.ChangeAt Go.RowKit
set_option linter.unusedVariables false

set_option maxHeartbeats 2000000 in
theorem words_none (nm : ByteArray) (w : World) (h0 : (nm.toList == [115, 104, 111, 119]) = false) (h1 : (nm.toList == [102, 108, 111, 97, 116]) = false) (h2 : (nm.toList == [99, 108, 101, 97, 114]) = false) (h13 : (nm.toList == [119, 104, 105, 116, 101]) = false) (h14 : (nm.toList == [97, 108, 105, 103, 110]) = false) :
    Calls Tryz.prog 14 #[.string nm] w fun e w' => e = .returned (.slice none 0 0) ∧ w' = w := by
  go_enter Tryz.func14, Tryz.ntmps14
  go_wp2
  go_ret
  exact ⟨rfl, rfl⟩
set_option maxRecDepth 100000 in
set_option maxHeartbeats 4000000 in
theorem set_none (s : St) (nm : ByteArray) (n m : Int) (a p : Bool) (w : World) (h0 : (nm.toList == [115, 104, 111, 119]) = false) (h1 : (nm.toList == [102, 108, 111, 97, 116]) = false) (h2 : (nm.toList == [99, 108, 101, 97, 114]) = false) (h3 : (nm.toList == [119, 105, 100, 116, 104]) = false) (h4 : (nm.toList == [104, 101, 105, 103, 104, 116]) = false) (h5 : (nm.toList == [109, 105, 110, 45, 119, 105, 100, 116, 104]) = false) (h6 : (nm.toList == [109, 97, 120, 45, 119, 105, 100, 116, 104]) = false) (h7 : (nm.toList == [109, 97, 114, 103, 105, 110, 45, 116, 111, 112]) = false) (h8 : (nm.toList == [109, 97, 114, 103, 105, 110, 45, 114, 105, 103, 104, 116]) = false) (h9 : (nm.toList == [109, 97, 114, 103, 105, 110, 45, 98, 111, 116, 116, 111, 109]) = false) (h10 : (nm.toList == [109, 97, 114, 103, 105, 110, 45, 108, 101, 102, 116]) = false) (h11 : (nm.toList == [98, 111, 114, 100, 101, 114]) = false) (h12 : (nm.toList == [112, 97, 100, 100, 105, 110, 103]) = false) (h13 : (nm.toList == [119, 104, 105, 116, 101]) = false) (h14 : (nm.toList == [97, 108, 105, 103, 110]) = false) (h15 : (nm.toList == [108, 105, 110, 101, 45, 104, 101, 105, 103, 104, 116]) = false) (h16 : (nm.toList == [114, 105, 103, 104, 116]) = false) (h17 : (nm.toList == [100, 111, 119, 110]) = false) :
    Calls Tryz.prog 10 #[.agg (#[.int .i64 s.sh, .int .i64 s.fl, .int .i64 s.cl, .bool s.w.a, .bool s.w.p, .int .i64 s.w.n, .bool s.h.a, .bool s.h.p, .int .i64 s.h.n, .int .i64 s.mn, .int .i64 s.mx, .int .i64 s.mt, .bool s.mr.a, .bool s.mr.p, .int .i64 s.mr.n, .int .i64 s.mb, .bool s.ml.a, .bool s.ml.p, .int .i64 s.ml.n, .int .i64 s.bo, .int .i64 s.pa, .int .i64 s.wh, .int .i64 s.al, .int .i64 s.lh, .int .i64 s.ri, .int .i64 s.dn]), .string nm, .int .i64 n, .agg #[.bool a, .bool p, .int .i64 m]] w fun e w' => e = .returned (.agg (#[.int .i64 s.sh, .int .i64 s.fl, .int .i64 s.cl, .bool s.w.a, .bool s.w.p, .int .i64 s.w.n, .bool s.h.a, .bool s.h.p, .int .i64 s.h.n, .int .i64 s.mn, .int .i64 s.mx, .int .i64 s.mt, .bool s.mr.a, .bool s.mr.p, .int .i64 s.mr.n, .int .i64 s.mb, .bool s.ml.a, .bool s.ml.p, .int .i64 s.ml.n, .int .i64 s.bo, .int .i64 s.pa, .int .i64 s.wh, .int .i64 s.al, .int .i64 s.lh, .int .i64 s.ri, .int .i64 s.dn])) ∧ Below w.heap.size w w' := by
  go_enter Tryz.func10, Tryz.ntmps10
  iterate 15 go_step
  refine wp_gen3 ?_
  intro W bel l0 l1 l2
  clear l1
  go_wp2_with (first
    | ((with_reducible show wpList _ _ _ (⟨some 91, Op.load 25 _, _, _, _, _⟩ :: _) _ _); refine wpList_load_row rfl 25 _ rfl w.heap.size rfl _ (setCells s) _ _ l0 Tryz.underlying25 rfl (by kernel_rfl) ?_)
    | ((with_reducible show wpList _ _ _ (⟨none, Op.store 25 _ _, _, _, _, _⟩ :: _) _ _); refine wpList_putA rfl _ _ _ rfl rfl _ 0 26 (setCells s).toList _ _ rfl rfl l2 rfl (by kernel_rfl) (by kernel_rfl) (by kernel_rfl) ?_; intro w9 p9 l9 n9; replace l2 := l9.trans (congrArg (fun c => some (Obj.cells c 25 (0, 0))) (show _ = setCells s by kernel_rfl)); replace bel := p9.below bel (by omega); clear l9 n9 p9))
  exact bodyPost_ret (v := .agg (setCells s)) (results_cell_row Tryz.results10 _ _ _ _ (setCells s) _ _ rfl l2 Tryz.underlying25 rfl (by kernel_rfl)) rfl ⟨rfl, bel⟩
end Go.Proofs.YtdgagjnkbmckoaaGreatDoor
