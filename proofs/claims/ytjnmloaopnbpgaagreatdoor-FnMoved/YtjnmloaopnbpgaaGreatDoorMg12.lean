/-
 The program's fixedStyle, for every style.
 Contracts of the program's passes over a row of bytes: blankOut makes one byte's value a blank in place, joinBlanks hands back a new row with blanks joined; rows of at most 200 bytes.
 Contract of the program's joinBlanks: it hands back a new row, blanks joined; a row of at most 200 bytes.
 Contract of the program's KeepText: for every white and every text it answers what keepN and keepB name, and leaves older memory alone.
 Contract of the model's KeepText: for every white and every text it answers what keepN and keepB name, and leaves older memory alone.
-/
import Derived.Test.YtjnmloaopnbpgaaGreatDoorMg11
import Derived.Laws.IdiomStrings
namespace Go.Proofs.YtjnmloaopnbpgaaGreatDoor
open Go.ChangeShapes Go.WideShapes Go.ChangeAt Go.RowKit
set_option linter.unusedVariables false
set_option maxRecDepth 100000 in
set_option maxHeartbeats 4000000 in
theorem fixed_none (s:St) (w:World) :
  Calls Tryz.prog 67 #[.agg #[.int .i64 3,.int .i64 s.fl,.int .i64 s.cl,.bool s.w.a,.bool s.w.p,.int .i64 s.w.n,.bool s.h.a,.bool s.h.p,.int .i64 s.h.n,.int .i64 s.mn,.int .i64 s.mx,.int .i64 s.mt,.bool s.mr.a,.bool s.mr.p,.int .i64 s.mr.n,.int .i64 s.mb,.bool s.ml.a,.bool s.ml.p,.int .i64 s.ml.n,.int .i64 s.bo,.int .i64 s.pa,.int .i64 s.wh,.int .i64 s.al,.int .i64 s.lh,.int .i64 s.ri,.int .i64 s.dn]] w fun e w'=>e = .returned (.agg (stCells ({ s with sh:=3 }))) ∧ Below w.heap.size w w':=by
 have l0:((w.alloc (.cells (#[.int .i64 3,.int .i64 s.fl,.int .i64 s.cl,.bool s.w.a,.bool s.w.p,.int .i64 s.w.n,.bool s.h.a,.bool s.h.p,.int .i64 s.h.n,.int .i64 s.mn,.int .i64 s.mx,.int .i64 s.mt,.bool s.mr.a,.bool s.mr.p,.int .i64 s.mr.n,.int .i64 s.mb,.bool s.ml.a,.bool s.ml.p,.int .i64 s.ml.n,.int .i64 s.bo,.int .i64 s.pa,.int .i64 s.wh,.int .i64 s.al,.int .i64 s.lh,.int .i64 s.ri,.int .i64 s.dn]) 73)).alloc (.cells (#[.int .i64 0,.int .i64 0,.int .i64 0,.bool false,.bool false,.int .i64 0,.bool false,.bool false,.int .i64 0,.int .i64 0,.int .i64 0,.int .i64 0,.bool false,.bool false,.int .i64 0,.int .i64 0,.bool false,.bool false,.int .i64 0,.int .i64 0,.int .i64 0,.int .i64 0,.int .i64 0,.int .i64 0,.int .i64 0,.int .i64 0]) 73)).heap[w.heap.size]? = some (.cells (stCells ({ s with sh:=3 })) 73 (0,0)):=heap_in (heap_at _ _ _ rfl)
 have l1:((w.alloc (.cells (#[.int .i64 3,.int .i64 s.fl,.int .i64 s.cl,.bool s.w.a,.bool s.w.p,.int .i64 s.w.n,.bool s.h.a,.bool s.h.p,.int .i64 s.h.n,.int .i64 s.mn,.int .i64 s.mx,.int .i64 s.mt,.bool s.mr.a,.bool s.mr.p,.int .i64 s.mr.n,.int .i64 s.mb,.bool s.ml.a,.bool s.ml.p,.int .i64 s.ml.n,.int .i64 s.bo,.int .i64 s.pa,.int .i64 s.wh,.int .i64 s.al,.int .i64 s.lh,.int .i64 s.ri,.int .i64 s.dn]) 73)).alloc (.cells (#[.int .i64 0,.int .i64 0,.int .i64 0,.bool false,.bool false,.int .i64 0,.bool false,.bool false,.int .i64 0,.int .i64 0,.int .i64 0,.int .i64 0,.bool false,.bool false,.int .i64 0,.int .i64 0,.bool false,.bool false,.int .i64 0,.int .i64 0,.int .i64 0,.int .i64 0,.int .i64 0,.int .i64 0,.int .i64 0,.int .i64 0]) 73)).heap[w.heap.size + 1]? = some (.cells (#[.int .i64 0,.int .i64 0,.int .i64 0,.bool false,.bool false,.int .i64 0,.bool false,.bool false,.int .i64 0,.int .i64 0,.int .i64 0,.int .i64 0,.bool false,.bool false,.int .i64 0,.int .i64 0,.bool false,.bool false,.int .i64 0,.int .i64 0,.int .i64 0,.int .i64 0,.int .i64 0,.int .i64 0,.int .i64 0,.int .i64 0]) 73 (0,0)):=heap_at _ _ _ (by simp)
 have bel:Below w.heap.size w ((w.alloc (.cells (#[.int .i64 3,.int .i64 s.fl,.int .i64 s.cl,.bool s.w.a,.bool s.w.p,.int .i64 s.w.n,.bool s.h.a,.bool s.h.p,.int .i64 s.h.n,.int .i64 s.mn,.int .i64 s.mx,.int .i64 s.mt,.bool s.mr.a,.bool s.mr.p,.int .i64 s.mr.n,.int .i64 s.mb,.bool s.ml.a,.bool s.ml.p,.int .i64 s.ml.n,.int .i64 s.bo,.int .i64 s.pa,.int .i64 s.wh,.int .i64 s.al,.int .i64 s.lh,.int .i64 s.ri,.int .i64 s.dn]) 73)).alloc (.cells (#[.int .i64 0,.int .i64 0,.int .i64 0,.bool false,.bool false,.int .i64 0,.bool false,.bool false,.int .i64 0,.int .i64 0,.int .i64 0,.int .i64 0,.bool false,.bool false,.int .i64 0,.int .i64 0,.bool false,.bool false,.int .i64 0,.int .i64 0,.int .i64 0,.int .i64 0,.int .i64 0,.int .i64 0,.int .i64 0,.int .i64 0]) 73)):=((Below.refl _ _).alloc (Nat.le_refl _) _).alloc (by simp) _
 go_enter Tryz.func67,Tryz.ntmps67
 go_wp2_with (first
  | ((with_reducible show wpList _ _ _ (⟨some 18,Op.load 73 _,_,_,_,_⟩ :: _) _ _);refine wpList_load_row rfl 73 _ rfl w.heap.size rfl _ (stCells ({ s with sh:=3 })) _ _ l0 Tryz.underlying73 rfl (by kernel_rfl) ?_)
  | ((with_reducible show wpList _ _ _ (⟨none,Op.store 73 (Operand.tmp 2) (Operand.tmp 18),_,_,_,_⟩ :: _) _ _);refine wpList_putA rfl _ _ _ rfl rfl _ 0 26 (stCells ({ s with sh:=3 })).toList _ _ rfl rfl l1 rfl (by kernel_rfl) (by kernel_rfl) (by kernel_rfl) ?_;intro w9 p9 l9 n9;replace l1:=l9.trans (congrArg (fun c=>some (Obj.cells c 73 (0,0))) (show _ = stCells ({ s with sh:=3 }) by kernel_rfl));replace bel:=p9.below bel (by omega);clear l9 n9 p9))
 exact bodyPost_ret (v:=.agg (stCells ({ s with sh:=3 }))) (results_cell_row Tryz.results67 _ _ _ _ (stCells ({ s with sh:=3 })) _ _ rfl l1 Tryz.underlying73 rfl (by kernel_rfl)) rfl ⟨rfl,bel⟩
set_option maxRecDepth 100000 in
set_option maxHeartbeats 4000000 in
theorem fixed_float (s:St) (w:World) (h:¬ s.sh = 3) (h2:¬ s.fl = 0) :
  Calls Tryz.prog 67 #[.agg #[.int .i64 s.sh,.int .i64 s.fl,.int .i64 s.cl,.bool s.w.a,.bool s.w.p,.int .i64 s.w.n,.bool s.h.a,.bool s.h.p,.int .i64 s.h.n,.int .i64 s.mn,.int .i64 s.mx,.int .i64 s.mt,.bool s.mr.a,.bool s.mr.p,.int .i64 s.mr.n,.int .i64 s.mb,.bool s.ml.a,.bool s.ml.p,.int .i64 s.ml.n,.int .i64 s.bo,.int .i64 s.pa,.int .i64 s.wh,.int .i64 s.al,.int .i64 s.lh,.int .i64 s.ri,.int .i64 s.dn]] w fun e w'=>e = .returned (.agg (stCells ({ s with sh:=1 }))) ∧ Below w.heap.size w w':=by
 have l0:((w.alloc (.cells (#[.int .i64 s.sh,.int .i64 s.fl,.int .i64 s.cl,.bool s.w.a,.bool s.w.p,.int .i64 s.w.n,.bool s.h.a,.bool s.h.p,.int .i64 s.h.n,.int .i64 s.mn,.int .i64 s.mx,.int .i64 s.mt,.bool s.mr.a,.bool s.mr.p,.int .i64 s.mr.n,.int .i64 s.mb,.bool s.ml.a,.bool s.ml.p,.int .i64 s.ml.n,.int .i64 s.bo,.int .i64 s.pa,.int .i64 s.wh,.int .i64 s.al,.int .i64 s.lh,.int .i64 s.ri,.int .i64 s.dn]) 73)).alloc (.cells (#[.int .i64 0,.int .i64 0,.int .i64 0,.bool false,.bool false,.int .i64 0,.bool false,.bool false,.int .i64 0,.int .i64 0,.int .i64 0,.int .i64 0,.bool false,.bool false,.int .i64 0,.int .i64 0,.bool false,.bool false,.int .i64 0,.int .i64 0,.int .i64 0,.int .i64 0,.int .i64 0,.int .i64 0,.int .i64 0,.int .i64 0]) 73)).heap[w.heap.size]? = some (.cells (stCells (s)) 73 (0,0)):=heap_in (heap_at _ _ _ rfl)
 have l1:((w.alloc (.cells (#[.int .i64 s.sh,.int .i64 s.fl,.int .i64 s.cl,.bool s.w.a,.bool s.w.p,.int .i64 s.w.n,.bool s.h.a,.bool s.h.p,.int .i64 s.h.n,.int .i64 s.mn,.int .i64 s.mx,.int .i64 s.mt,.bool s.mr.a,.bool s.mr.p,.int .i64 s.mr.n,.int .i64 s.mb,.bool s.ml.a,.bool s.ml.p,.int .i64 s.ml.n,.int .i64 s.bo,.int .i64 s.pa,.int .i64 s.wh,.int .i64 s.al,.int .i64 s.lh,.int .i64 s.ri,.int .i64 s.dn]) 73)).alloc (.cells (#[.int .i64 0,.int .i64 0,.int .i64 0,.bool false,.bool false,.int .i64 0,.bool false,.bool false,.int .i64 0,.int .i64 0,.int .i64 0,.int .i64 0,.bool false,.bool false,.int .i64 0,.int .i64 0,.bool false,.bool false,.int .i64 0,.int .i64 0,.int .i64 0,.int .i64 0,.int .i64 0,.int .i64 0,.int .i64 0,.int .i64 0]) 73)).heap[w.heap.size + 1]? = some (.cells (#[.int .i64 0,.int .i64 0,.int .i64 0,.bool false,.bool false,.int .i64 0,.bool false,.bool false,.int .i64 0,.int .i64 0,.int .i64 0,.int .i64 0,.bool false,.bool false,.int .i64 0,.int .i64 0,.bool false,.bool false,.int .i64 0,.int .i64 0,.int .i64 0,.int .i64 0,.int .i64 0,.int .i64 0,.int .i64 0,.int .i64 0]) 73 (0,0)):=heap_at _ _ _ (by simp)
 have bel:Below w.heap.size w ((w.alloc (.cells (#[.int .i64 s.sh,.int .i64 s.fl,.int .i64 s.cl,.bool s.w.a,.bool s.w.p,.int .i64 s.w.n,.bool s.h.a,.bool s.h.p,.int .i64 s.h.n,.int .i64 s.mn,.int .i64 s.mx,.int .i64 s.mt,.bool s.mr.a,.bool s.mr.p,.int .i64 s.mr.n,.int .i64 s.mb,.bool s.ml.a,.bool s.ml.p,.int .i64 s.ml.n,.int .i64 s.bo,.int .i64 s.pa,.int .i64 s.wh,.int .i64 s.al,.int .i64 s.lh,.int .i64 s.ri,.int .i64 s.dn]) 73)).alloc (.cells (#[.int .i64 0,.int .i64 0,.int .i64 0,.bool false,.bool false,.int .i64 0,.bool false,.bool false,.int .i64 0,.int .i64 0,.int .i64 0,.int .i64 0,.bool false,.bool false,.int .i64 0,.int .i64 0,.bool false,.bool false,.int .i64 0,.int .i64 0,.int .i64 0,.int .i64 0,.int .i64 0,.int .i64 0,.int .i64 0,.int .i64 0]) 73)):=((Below.refl _ _).alloc (Nat.le_refl _) _).alloc (by simp) _
 go_enter Tryz.func67,Tryz.ntmps67
 go_wp2_with (first
  | ((with_reducible show wpList _ _ _ (⟨none,Op.store 3 (Operand.tmp 11) _,_,_,_,_⟩ :: _) _ _);refine wpList_putA rfl _ _ _ rfl rfl _ 0 26 [.int .i64 1] _ _ rfl rfl l0 rfl (by kernel_rfl) (by kernel_rfl) (by kernel_rfl) ?_;intro w9 p9 l9 n9;replace l0:=l9.trans (congrArg (fun c=>some (Obj.cells c 73 (0,0))) (show _ = stCells ({ s with sh:=1 }) by kernel_rfl));replace l1:=p9.lies l1 (by omega);replace bel:=p9.below bel (by omega);clear l9 n9 p9;have hc:w9.cell? ⟨w.heap.size,0,none⟩ = some (.int .i64 1):=(lies_cell l0 0).trans rfl)
  | ((with_reducible show wpList _ _ _ (⟨some 18,Op.load 73 _,_,_,_,_⟩ :: _) _ _);refine wpList_load_row rfl 73 _ rfl w.heap.size rfl _ (stCells ({ s with sh:=1 })) _ _ l0 Tryz.underlying73 rfl (by kernel_rfl) ?_)
  | ((with_reducible show wpList _ _ _ (⟨none,Op.store 73 (Operand.tmp 2) (Operand.tmp 18),_,_,_,_⟩ :: _) _ _);refine wpList_putA rfl _ _ _ rfl rfl _ 0 26 (stCells ({ s with sh:=1 })).toList _ _ rfl rfl l1 rfl (by kernel_rfl) (by kernel_rfl) (by kernel_rfl) ?_;intro w9 p9 l9 n9;replace l1:=l9.trans (congrArg (fun c=>some (Obj.cells c 73 (0,0))) (show _ = stCells ({ s with sh:=1 }) by kernel_rfl));replace bel:=p9.below bel (by omega);clear l9 n9 p9))
 exact bodyPost_ret (v:=.agg (stCells ({ s with sh:=1 }))) (results_cell_row Tryz.results67 _ _ _ _ (stCells ({ s with sh:=1 })) _ _ rfl l1 Tryz.underlying73 rfl (by kernel_rfl)) rfl ⟨rfl,bel⟩
set_option maxRecDepth 100000 in
set_option maxHeartbeats 4000000 in
theorem fixed_inline (s:St) (w:World) :
  Calls Tryz.prog 67 #[.agg #[.int .i64 2,.int .i64 0,.int .i64 s.cl,.bool s.w.a,.bool s.w.p,.int .i64 s.w.n,.bool s.h.a,.bool s.h.p,.int .i64 s.h.n,.int .i64 s.mn,.int .i64 s.mx,.int .i64 s.mt,.bool s.mr.a,.bool s.mr.p,.int .i64 s.mr.n,.int .i64 s.mb,.bool s.ml.a,.bool s.ml.p,.int .i64 s.ml.n,.int .i64 s.bo,.int .i64 s.pa,.int .i64 s.wh,.int .i64 s.al,.int .i64 s.lh,.int .i64 s.ri,.int .i64 s.dn]] w fun e w'=>e = .returned (.agg (stCells ({ plainSt with sh:=2 }))) ∧ Below w.heap.size w w':=by
 have l0:((w.alloc (.cells (#[.int .i64 2,.int .i64 0,.int .i64 s.cl,.bool s.w.a,.bool s.w.p,.int .i64 s.w.n,.bool s.h.a,.bool s.h.p,.int .i64 s.h.n,.int .i64 s.mn,.int .i64 s.mx,.int .i64 s.mt,.bool s.mr.a,.bool s.mr.p,.int .i64 s.mr.n,.int .i64 s.mb,.bool s.ml.a,.bool s.ml.p,.int .i64 s.ml.n,.int .i64 s.bo,.int .i64 s.pa,.int .i64 s.wh,.int .i64 s.al,.int .i64 s.lh,.int .i64 s.ri,.int .i64 s.dn]) 73)).alloc (.cells (#[.int .i64 0,.int .i64 0,.int .i64 0,.bool false,.bool false,.int .i64 0,.bool false,.bool false,.int .i64 0,.int .i64 0,.int .i64 0,.int .i64 0,.bool false,.bool false,.int .i64 0,.int .i64 0,.bool false,.bool false,.int .i64 0,.int .i64 0,.int .i64 0,.int .i64 0,.int .i64 0,.int .i64 0,.int .i64 0,.int .i64 0]) 73)).heap[w.heap.size]? = some (.cells (stCells ({ s with sh:=2,fl:=0 })) 73 (0,0)):=heap_in (heap_at _ _ _ rfl)
 have l1:((w.alloc (.cells (#[.int .i64 2,.int .i64 0,.int .i64 s.cl,.bool s.w.a,.bool s.w.p,.int .i64 s.w.n,.bool s.h.a,.bool s.h.p,.int .i64 s.h.n,.int .i64 s.mn,.int .i64 s.mx,.int .i64 s.mt,.bool s.mr.a,.bool s.mr.p,.int .i64 s.mr.n,.int .i64 s.mb,.bool s.ml.a,.bool s.ml.p,.int .i64 s.ml.n,.int .i64 s.bo,.int .i64 s.pa,.int .i64 s.wh,.int .i64 s.al,.int .i64 s.lh,.int .i64 s.ri,.int .i64 s.dn]) 73)).alloc (.cells (#[.int .i64 0,.int .i64 0,.int .i64 0,.bool false,.bool false,.int .i64 0,.bool false,.bool false,.int .i64 0,.int .i64 0,.int .i64 0,.int .i64 0,.bool false,.bool false,.int .i64 0,.int .i64 0,.bool false,.bool false,.int .i64 0,.int .i64 0,.int .i64 0,.int .i64 0,.int .i64 0,.int .i64 0,.int .i64 0,.int .i64 0]) 73)).heap[w.heap.size + 1]? = some (.cells (#[.int .i64 0,.int .i64 0,.int .i64 0,.bool false,.bool false,.int .i64 0,.bool false,.bool false,.int .i64 0,.int .i64 0,.int .i64 0,.int .i64 0,.bool false,.bool false,.int .i64 0,.int .i64 0,.bool false,.bool false,.int .i64 0,.int .i64 0,.int .i64 0,.int .i64 0,.int .i64 0,.int .i64 0,.int .i64 0,.int .i64 0]) 73 (0,0)):=heap_at _ _ _ (by simp)
 have bel:Below w.heap.size w ((w.alloc (.cells (#[.int .i64 2,.int .i64 0,.int .i64 s.cl,.bool s.w.a,.bool s.w.p,.int .i64 s.w.n,.bool s.h.a,.bool s.h.p,.int .i64 s.h.n,.int .i64 s.mn,.int .i64 s.mx,.int .i64 s.mt,.bool s.mr.a,.bool s.mr.p,.int .i64 s.mr.n,.int .i64 s.mb,.bool s.ml.a,.bool s.ml.p,.int .i64 s.ml.n,.int .i64 s.bo,.int .i64 s.pa,.int .i64 s.wh,.int .i64 s.al,.int .i64 s.lh,.int .i64 s.ri,.int .i64 s.dn]) 73)).alloc (.cells (#[.int .i64 0,.int .i64 0,.int .i64 0,.bool false,.bool false,.int .i64 0,.bool false,.bool false,.int .i64 0,.int .i64 0,.int .i64 0,.int .i64 0,.bool false,.bool false,.int .i64 0,.int .i64 0,.bool false,.bool false,.int .i64 0,.int .i64 0,.int .i64 0,.int .i64 0,.int .i64 0,.int .i64 0,.int .i64 0,.int .i64 0]) 73)):=((Below.refl _ _).alloc (Nat.le_refl _) _).alloc (by simp) _
 go_enter Tryz.func67,Tryz.ntmps67
 go_wp2_with (first
  | (go_at_call 86;refine (implPlain_at _).mono ?_;rintro e w8 ⟨rfl,rfl⟩;replace bel:=bel.alloc (by simp;omega) (.cells (#[.int .i64 1,.int .i64 0,.int .i64 0,.bool true,.bool false,.int .i64 0,.bool true,.bool false,.int .i64 0,.int .i64 0,.int .i64 (-1),.int .i64 0,.bool false,.bool false,.int .i64 0,.int .i64 0,.bool false,.bool false,.int .i64 0,.int .i64 0,.int .i64 0,.int .i64 1,.int .i64 1,.int .i64 0,.int .i64 0,.int .i64 0]) 73);replace l1:=heap_in (o:=.cells (#[.int .i64 1,.int .i64 0,.int .i64 0,.bool true,.bool false,.int .i64 0,.bool true,.bool false,.int .i64 0,.int .i64 0,.int .i64 (-1),.int .i64 0,.bool false,.bool false,.int .i64 0,.int .i64 0,.bool false,.bool false,.int .i64 0,.int .i64 0,.int .i64 0,.int .i64 1,.int .i64 1,.int .i64 0,.int .i64 0,.int .i64 0]) 73) l1;replace l0:=heap_in (o:=.cells (#[.int .i64 1,.int .i64 0,.int .i64 0,.bool true,.bool false,.int .i64 0,.bool true,.bool false,.int .i64 0,.int .i64 0,.int .i64 (-1),.int .i64 0,.bool false,.bool false,.int .i64 0,.int .i64 0,.bool false,.bool false,.int .i64 0,.int .i64 0,.int .i64 0,.int .i64 1,.int .i64 1,.int .i64 0,.int .i64 0,.int .i64 0]) 73) l0)
  | ((with_reducible show wpList _ _ _ (⟨none,Op.store 73 (Operand.tmp 1) (Operand.tmp 16),_,_,_,_⟩ :: _) _ _);refine wpList_putA rfl _ _ _ rfl rfl _ 0 26 (stCells plainSt).toList _ _ rfl rfl l0 rfl (by kernel_rfl) (by kernel_rfl) (by kernel_rfl) ?_;intro w9 p9 l9 n9;replace l0:=l9.trans (congrArg (fun c=>some (Obj.cells c 73 (0,0))) (show _ = stCells plainSt by kernel_rfl));replace l1:=p9.lies l1 (by omega);replace bel:=p9.below bel (by omega);clear l9 n9 p9)
  | ((with_reducible show wpList _ _ _ (⟨none,Op.store 3 (Operand.tmp 17) _,_,_,_,_⟩ :: _) _ _);refine wpList_putA rfl _ _ _ rfl rfl _ 0 26 [.int .i64 2] _ _ rfl rfl l0 rfl (by kernel_rfl) (by kernel_rfl) (by kernel_rfl) ?_;intro w9 p9 l9 n9;replace l0:=l9.trans (congrArg (fun c=>some (Obj.cells c 73 (0,0))) (show _ = stCells ({ plainSt with sh:=2 }) by kernel_rfl));replace l1:=p9.lies l1 (by omega);replace bel:=p9.below bel (by omega);clear l9 n9 p9;have hc:w9.cell? ⟨w.heap.size,0,none⟩ = some (.int .i64 2):=(lies_cell l0 0).trans rfl)
  | ((with_reducible show wpList _ _ _ (⟨some 18,Op.load 73 _,_,_,_,_⟩ :: _) _ _);refine wpList_load_row rfl 73 _ rfl w.heap.size rfl _ (stCells ({ plainSt with sh:=2 })) _ _ l0 Tryz.underlying73 rfl (by kernel_rfl) ?_)
  | ((with_reducible show wpList _ _ _ (⟨none,Op.store 73 (Operand.tmp 2) (Operand.tmp 18),_,_,_,_⟩ :: _) _ _);refine wpList_putA rfl _ _ _ rfl rfl _ 0 26 (stCells ({ plainSt with sh:=2 })).toList _ _ rfl rfl l1 rfl (by kernel_rfl) (by kernel_rfl) (by kernel_rfl) ?_;intro w9 p9 l9 n9;replace l1:=l9.trans (congrArg (fun c=>some (Obj.cells c 73 (0,0))) (show _ = stCells ({ plainSt with sh:=2 }) by kernel_rfl));replace bel:=p9.below bel (by omega);clear l9 n9 p9))
 exact bodyPost_ret (v:=.agg (stCells ({ plainSt with sh:=2 }))) (results_cell_row Tryz.results67 _ _ _ _ (stCells ({ plainSt with sh:=2 })) _ _ rfl l1 Tryz.underlying73 rfl (by kernel_rfl)) rfl ⟨rfl,bel⟩
set_option maxRecDepth 100000 in
set_option maxHeartbeats 4000000 in
theorem fixed_same (s:St) (w:World) (h:¬ s.sh = 3) (h3:¬ s.sh = 2) :
  Calls Tryz.prog 67 #[.agg #[.int .i64 s.sh,.int .i64 0,.int .i64 s.cl,.bool s.w.a,.bool s.w.p,.int .i64 s.w.n,.bool s.h.a,.bool s.h.p,.int .i64 s.h.n,.int .i64 s.mn,.int .i64 s.mx,.int .i64 s.mt,.bool s.mr.a,.bool s.mr.p,.int .i64 s.mr.n,.int .i64 s.mb,.bool s.ml.a,.bool s.ml.p,.int .i64 s.ml.n,.int .i64 s.bo,.int .i64 s.pa,.int .i64 s.wh,.int .i64 s.al,.int .i64 s.lh,.int .i64 s.ri,.int .i64 s.dn]] w fun e w'=>e = .returned (.agg (stCells ({ s with fl:=0 }))) ∧ Below w.heap.size w w':=by
 have l0:((w.alloc (.cells (#[.int .i64 s.sh,.int .i64 0,.int .i64 s.cl,.bool s.w.a,.bool s.w.p,.int .i64 s.w.n,.bool s.h.a,.bool s.h.p,.int .i64 s.h.n,.int .i64 s.mn,.int .i64 s.mx,.int .i64 s.mt,.bool s.mr.a,.bool s.mr.p,.int .i64 s.mr.n,.int .i64 s.mb,.bool s.ml.a,.bool s.ml.p,.int .i64 s.ml.n,.int .i64 s.bo,.int .i64 s.pa,.int .i64 s.wh,.int .i64 s.al,.int .i64 s.lh,.int .i64 s.ri,.int .i64 s.dn]) 73)).alloc (.cells (#[.int .i64 0,.int .i64 0,.int .i64 0,.bool false,.bool false,.int .i64 0,.bool false,.bool false,.int .i64 0,.int .i64 0,.int .i64 0,.int .i64 0,.bool false,.bool false,.int .i64 0,.int .i64 0,.bool false,.bool false,.int .i64 0,.int .i64 0,.int .i64 0,.int .i64 0,.int .i64 0,.int .i64 0,.int .i64 0,.int .i64 0]) 73)).heap[w.heap.size]? = some (.cells (stCells ({ s with fl:=0 })) 73 (0,0)):=heap_in (heap_at _ _ _ rfl)
 have l1:((w.alloc (.cells (#[.int .i64 s.sh,.int .i64 0,.int .i64 s.cl,.bool s.w.a,.bool s.w.p,.int .i64 s.w.n,.bool s.h.a,.bool s.h.p,.int .i64 s.h.n,.int .i64 s.mn,.int .i64 s.mx,.int .i64 s.mt,.bool s.mr.a,.bool s.mr.p,.int .i64 s.mr.n,.int .i64 s.mb,.bool s.ml.a,.bool s.ml.p,.int .i64 s.ml.n,.int .i64 s.bo,.int .i64 s.pa,.int .i64 s.wh,.int .i64 s.al,.int .i64 s.lh,.int .i64 s.ri,.int .i64 s.dn]) 73)).alloc (.cells (#[.int .i64 0,.int .i64 0,.int .i64 0,.bool false,.bool false,.int .i64 0,.bool false,.bool false,.int .i64 0,.int .i64 0,.int .i64 0,.int .i64 0,.bool false,.bool false,.int .i64 0,.int .i64 0,.bool false,.bool false,.int .i64 0,.int .i64 0,.int .i64 0,.int .i64 0,.int .i64 0,.int .i64 0,.int .i64 0,.int .i64 0]) 73)).heap[w.heap.size + 1]? = some (.cells (#[.int .i64 0,.int .i64 0,.int .i64 0,.bool false,.bool false,.int .i64 0,.bool false,.bool false,.int .i64 0,.int .i64 0,.int .i64 0,.int .i64 0,.bool false,.bool false,.int .i64 0,.int .i64 0,.bool false,.bool false,.int .i64 0,.int .i64 0,.int .i64 0,.int .i64 0,.int .i64 0,.int .i64 0,.int .i64 0,.int .i64 0]) 73 (0,0)):=heap_at _ _ _ (by simp)
 have bel:Below w.heap.size w ((w.alloc (.cells (#[.int .i64 s.sh,.int .i64 0,.int .i64 s.cl,.bool s.w.a,.bool s.w.p,.int .i64 s.w.n,.bool s.h.a,.bool s.h.p,.int .i64 s.h.n,.int .i64 s.mn,.int .i64 s.mx,.int .i64 s.mt,.bool s.mr.a,.bool s.mr.p,.int .i64 s.mr.n,.int .i64 s.mb,.bool s.ml.a,.bool s.ml.p,.int .i64 s.ml.n,.int .i64 s.bo,.int .i64 s.pa,.int .i64 s.wh,.int .i64 s.al,.int .i64 s.lh,.int .i64 s.ri,.int .i64 s.dn]) 73)).alloc (.cells (#[.int .i64 0,.int .i64 0,.int .i64 0,.bool false,.bool false,.int .i64 0,.bool false,.bool false,.int .i64 0,.int .i64 0,.int .i64 0,.int .i64 0,.bool false,.bool false,.int .i64 0,.int .i64 0,.bool false,.bool false,.int .i64 0,.int .i64 0,.int .i64 0,.int .i64 0,.int .i64 0,.int .i64 0,.int .i64 0,.int .i64 0]) 73)):=((Below.refl _ _).alloc (Nat.le_refl _) _).alloc (by simp) _
 go_enter Tryz.func67,Tryz.ntmps67
 go_wp2_with (first
  | ((with_reducible show wpList _ _ _ (⟨some 18,Op.load 73 _,_,_,_,_⟩ :: _) _ _);refine wpList_load_row rfl 73 _ rfl w.heap.size rfl _ (stCells ({ s with fl:=0 })) _ _ l0 Tryz.underlying73 rfl (by kernel_rfl) ?_)
  | ((with_reducible show wpList _ _ _ (⟨none,Op.store 73 (Operand.tmp 2) (Operand.tmp 18),_,_,_,_⟩ :: _) _ _);refine wpList_putA rfl _ _ _ rfl rfl _ 0 26 (stCells ({ s with fl:=0 })).toList _ _ rfl rfl l1 rfl (by kernel_rfl) (by kernel_rfl) (by kernel_rfl) ?_;intro w9 p9 l9 n9;replace l1:=l9.trans (congrArg (fun c=>some (Obj.cells c 73 (0,0))) (show _ = stCells ({ s with fl:=0 }) by kernel_rfl));replace bel:=p9.below bel (by omega);clear l9 n9 p9))
 exact bodyPost_ret (v:=.agg (stCells ({ s with fl:=0 }))) (results_cell_row Tryz.results67 _ _ _ _ (stCells ({ s with fl:=0 })) _ _ rfl l1 Tryz.underlying73 rfl (by kernel_rfl)) rfl ⟨rfl,bel⟩
theorem fixed_any (s:St) (w:World) :
  Calls Tryz.prog 67 #[.agg (stCells s)] w fun e w'=>e = .returned (.agg (stCells (fixSt s))) ∧ Below w.heap.size w w':=by
 by_cases h:s.sh = 3
 ·have e:fixSt s = { s with sh:=3 }:=by unfold fixSt;rw [if_pos h,← h]
  rw [e,show stCells s = #[.int .i64 3,.int .i64 s.fl,.int .i64 s.cl,.bool s.w.a,.bool s.w.p,.int .i64 s.w.n,.bool s.h.a,.bool s.h.p,.int .i64 s.h.n,.int .i64 s.mn,.int .i64 s.mx,.int .i64 s.mt,.bool s.mr.a,.bool s.mr.p,.int .i64 s.mr.n,.int .i64 s.mb,.bool s.ml.a,.bool s.ml.p,.int .i64 s.ml.n,.int .i64 s.bo,.int .i64 s.pa,.int .i64 s.wh,.int .i64 s.al,.int .i64 s.lh,.int .i64 s.ri,.int .i64 s.dn] by unfold stCells;rw [h]]
  exact fixed_none s w
 ·by_cases h2:s.fl = 0
  ·by_cases h3:s.sh = 2
   ·have e:fixSt s = { plainSt with sh:=2 }:=by unfold fixSt;rw [if_neg h,if_neg (by simpa using h2),if_pos h3]
    rw [e,show stCells s = #[.int .i64 2,.int .i64 0,.int .i64 s.cl,.bool s.w.a,.bool s.w.p,.int .i64 s.w.n,.bool s.h.a,.bool s.h.p,.int .i64 s.h.n,.int .i64 s.mn,.int .i64 s.mx,.int .i64 s.mt,.bool s.mr.a,.bool s.mr.p,.int .i64 s.mr.n,.int .i64 s.mb,.bool s.ml.a,.bool s.ml.p,.int .i64 s.ml.n,.int .i64 s.bo,.int .i64 s.pa,.int .i64 s.wh,.int .i64 s.al,.int .i64 s.lh,.int .i64 s.ri,.int .i64 s.dn] by unfold stCells;rw [h3,h2]]
    exact fixed_inline s w
   ·have e:fixSt s = { s with fl:=0 }:=by unfold fixSt;rw [if_neg h,if_neg (by simpa using h2),if_neg h3,← h2]
    rw [e,show stCells s = #[.int .i64 s.sh,.int .i64 0,.int .i64 s.cl,.bool s.w.a,.bool s.w.p,.int .i64 s.w.n,.bool s.h.a,.bool s.h.p,.int .i64 s.h.n,.int .i64 s.mn,.int .i64 s.mx,.int .i64 s.mt,.bool s.mr.a,.bool s.mr.p,.int .i64 s.mr.n,.int .i64 s.mb,.bool s.ml.a,.bool s.ml.p,.int .i64 s.ml.n,.int .i64 s.bo,.int .i64 s.pa,.int .i64 s.wh,.int .i64 s.al,.int .i64 s.lh,.int .i64 s.ri,.int .i64 s.dn] by unfold stCells;rw [h2]]
    exact fixed_same s w h h3
  ·have e:fixSt s = { s with sh:=1 }:=by unfold fixSt;rw [if_neg h,if_pos (by simpa using h2)]
   rw [e]
   exact fixed_float s w h h2
/-- A byte in a cell. -/
def encU (c:UInt8):Value:=.int .u8 (c.toNat:Int)
/-- Block g begins with the bytes l, and they may be written. -/
def BRow (w:World) (g:Nat) (l:List UInt8):Prop :=
 g < w.heap.size ∧ (∀ j,j < l.length → w.cell? ⟨g,j,none⟩ = some (.int .u8 ((l.getD j 0).toNat:Int))) ∧ (∀ j,j < l.length → w.frozen? ⟨g,j,none⟩ = false)
theorem BRow.set {w:World} {g k:Nat} {l:List UInt8} (h:BRow w g l) (hk:k < l.length) (c:UInt8) (z:Int) (hz:z = (c.toNat:Int)):BRow (w.setCell ⟨g,k,none⟩ (.int .u8 z)) g (l.set k c):=by
 refine ⟨by simpa using h.1,fun j hj=>?_,fun j hj=>?_⟩
 ·have hj':j < l.length:=by simpa using hj
  by_cases e:k = j
  ·subst e
   rw [World.cell?_setCell_same _ _ _ (h.2.1 k hk),hz]
   simp [List.getD_eq_getElem?_getD,hk]
  ·rw [World.cell?_setCell_other _ _ _ _ (fun x=>e (by cases x;rfl)),h.2.1 j hj']
   simp [List.getD_eq_getElem?_getD,e]
 ·rw [World.frozen?_setCell]
  exact h.2.2 j (by simpa using hj)
theorem brow_new (w:World) (s:ByteArray) (cap:Nat) (lo:Nat) (hlo:s.size ≤ lo):BRow (w.alloc (.cells (bytesRow s cap) 5 (lo,lo + 1))) w.heap.size s.data.toList:=by
 refine ⟨by simp,fun j hj=>?_,fun j hj=>?_⟩
 ·have hj':j < s.data.size:=by simpa using hj
  rw [World.cell?_alloc_mark,bytesRow_at s cap j hj']
  have e:s.data.toList.getD j 0 = s.data[j]:=by rw [List.getD_eq_getElem?_getD,List.getElem?_eq_getElem hj];rfl
  rw [e]
 ·have hj':j < s.size:=by simpa using hj
  rw [World.frozen?_alloc_mark]
  simp
  omega
theorem BRow.back {w:World} {g:Nat} {l:List UInt8} (h:BRow w g l) (cap:Nat):(convert 22 9 (.slice (some ⟨g,0,none⟩) l.length cap)).run Tryz.prog w = .ok (.string ⟨l.toArray⟩) w :=
 run_convert_bytes_back w 22 9 5 ⟨g,0,none⟩ cap l Tryz.underlying22 Tryz.underlying5 Tryz.underlying9 (fun j hj=>by
  have hadd:(⟨g,0,none⟩:Addr).add j = ⟨g,j,none⟩:=by unfold Addr.add;split <;> simp_all
  rw [hadd,h.2.1 j hj]
  simp [List.getD_eq_getElem?_getD,hj])
theorem own_back {w:World} {B n:Nat} {v:Value} {l:List UInt8} (hn:n = l.length) (h:w.ownsRow B 5 1 v n (l.map encU)) :
  (convert 22 9 v).run Tryz.prog w = .ok (.string ⟨l.toArray⟩) w:=by
 subst hn
 rcases h.2 with ⟨rfl,hl⟩ | ⟨g,cap,cur,rfl,_,hg,_,_,_,ht⟩
 ·have e:l = []:=List.eq_nil_of_length_eq_zero hl
  subst e
  show (convert 22 9 (.slice none 0 0)).run Tryz.prog w = _
  rw [run_convert_bytes_string w 22 9 5 none 0 0 Tryz.underlying22 Tryz.underlying5 Tryz.underlying9]
  rfl
 ·refine run_convert_bytes_back w 22 9 5 ⟨g,0,none⟩ cap l Tryz.underlying22 Tryz.underlying5 Tryz.underlying9 (fun j hj=>?_)
  exact h.cells (g:=g) rfl j _ (by simp [hj,encU])
theorem Tryz.infoU8:(Tryz.prog.info? 5).map (fun i=>(i.zero,i.size,i.bytes)) = some (some (.int .u8 0),1,1):=by kernel_rfl
theorem one_u8 (z:Int):∀ u ∈ [Value.int .u8 z],u.oneCell' = true:=by
 intro u hu
 rw [List.mem_singleton] at hu
 subst hu
 rfl
theorem own_lo {w:World} {B e n size:Nat} {v:Value} {xs:List Value} (h:w.ownsRow B e size v n xs):∀ k,v.ownBlock = some k → B ≤ k:=fun k hk=>(h.lt k hk).1
theorem blk_yes {g:Nat} {c:UInt8} (h:c.toNat = g):blk g c = 32:=by simp [blk,h]
theorem blk_no {g:Nat} {c:UInt8} (h:¬ c.toNat = g):blk g c = c:=by simp [blk,h]
set_option maxHeartbeats 2000000 in
theorem blankOut_any (g cap gone:Nat) (l:List UInt8) (n:Nat) (w:World) (hn:n = l.length) (hl:n ≤ 200) (hB:BRow w g l) :
  Calls Tryz.prog 88 #[.slice (some ⟨g,0,none⟩) n cap,.int .u8 gone] w fun e w'=>(∃ v,e = .returned v) ∧ BRow w' g (l.map (blk gone)) ∧ Below g w w':=by
 have HN:Hid (n = l.length):=hn
 clear hn
 go_enter Tryz.func88,Tryz.ntmps88
 go_wp2
 go_loopw [8] (fun i wr=>∃ k:Nat,k ≤ n ∧ i = .int .i64 k ∧ BRow wr g (mapTo (blk gone) l k) ∧ Below g w wr) (fun i _=>n - (intOf i).toNat)
 case atStart=>exact ⟨0,Nat.zero_le _,rfl,by rw [mapTo_zero];exact hB,Below.refl _ _⟩
 case round =>
  obtain ⟨k,hk,rfl,hR,hbw⟩:=hrel
  clear hB
  by_cases hlt:k < n
  ·have hkl:k < (mapTo (blk gone) l k).length:=by rw [mapTo_len,← HN.out];exact hlt
   have hc:=hR.2.1 k hkl
   have hf:=hR.2.2 k hkl
   rw [mapTo_at _ _ _ (by rw [← HN.out];exact hlt)] at hc
   by_cases he:(l.getD k 0).toNat = gone
   ·have R:=hR.set hkl 32 32 rfl
    rw [← blk_yes he,← mapTo_next _ _ _ (by rw [← HN.out];exact hlt)] at R
    have R2:=hbw.setCell (p:=⟨g,k,none⟩) (Nat.le_refl _) (.int .u8 32)
    clear hR hbw
    rw [he] at hc
    go_wp2
    go_roundw
    case rel=>exact ⟨k + 1,by omega,by go_num,R,R2⟩
    case measure=>simp [intOf];omega
   ·have R:=hR
    rw [← mapTo_same (blk gone) l k (by rw [← HN.out];exact hlt) (blk_no he)] at R
    obtain ⟨z,hz⟩:∃ z,z = (l.getD k 0).toNat:=⟨_,rfl⟩
    rw [← hz] at hc he
    have he':¬ (z:Int) = (gone:Int):=by omega
    have hb':((z:Int) == (gone:Int)) = false:=by simpa using he'
    clear hR hz
    go_wp2
    go_roundw
    case rel=>exact ⟨k + 1,by omega,by go_num,R,hbw⟩
    case measure=>simp [intOf];omega
  ·have e:k = n:=by omega
   subst e
   rw [HN.out,mapTo_all] at hR
   go_wp2
   go_end0
   exact ⟨⟨_,rfl⟩,hR,hbw⟩
theorem own_val {w:World} {B e n:Nat} {v:Value} {xs:List Value} (h:w.ownsRow B e 1 v n xs) :
  ∃ a cap,v = .slice a n cap ∧ (0 < n → ∃ g,a = some ⟨g,0,none⟩ ∧ B ≤ g ∧ g < w.heap.size ∧ ∀ j u,xs[j]? = some u → w.cell? ⟨g,j,none⟩ = some u):=by
 rcases h.2 with ⟨rfl,rfl⟩ | ⟨g,cap,cur,rfl,hb,hg,_,_,_,ht⟩
 ·exact ⟨none,0,rfl,fun h=>absurd h (by omega)⟩
 ·refine ⟨some ⟨g,0,none⟩,cap,rfl,fun _=>⟨g,rfl,hb,(Array.getElem?_eq_some_iff.1 hg).1,fun j u hu=>?_⟩⟩
  have:=h.cells (g:=g) rfl j u hu
  have hadd:(⟨g,0,none⟩:Addr).add j = ⟨g,j,none⟩:=by unfold Addr.add;split <;> simp_all
  rwa [hadd] at this
set_option maxHeartbeats 1000000 in
theorem beginsLine_any (B n:Nat) (v:Value) (l:List UInt8) (w:World) (hn:n = l.length) (hl:n ≤ 400) (h:w.ownsRow B 5 1 v n (l.map encU)) :
  Calls Tryz.prog 104 #[v] w fun e w'=>e = .returned (.bool (begins l)) ∧ w' = w:=by
 obtain ⟨a,cap,rfl,hc⟩:=own_val h
 clear h
 by_cases h0:n = 0
 ·have HV:Hid (true = begins l):=by show _ = _;simp [begins,← hn,h0]
  subst h0
  clear hc hn
  go_enter Tryz.func104,Tryz.ntmps104
  go_wp2
  go_ret
  exact ⟨ret_bool HV.out,rfl⟩
 ·obtain ⟨g,rfl,_,_,hcell⟩:=hc (by omega)
  have hx:=hcell (n - 1) (.int .u8 (lastU l:Int)) (by
   simp [encU,lastU,List.getD_eq_getElem?_getD,← hn]
   exact ⟨_,List.getElem?_eq_getElem (by omega),by rw [List.getElem?_eq_getElem (by omega)];rfl⟩)
  have h0':(0:Int) < (n:Int):=by omega
  have q1:(0:Int) ≤ (n:Int) - 1:=by omega
  have hb0:((n:Int) == 0) = false:=by simp;omega
  have HV:Hid (decide (lastU l = 10) = begins l):=by
   show _ = _
   have:¬ l.length = 0:=by omega
   simp [begins,this]
  generalize lastU l = z at hx HV
  clear hcell hc hn
  by_cases hz:z = 10
  ·subst hz
   go_enter Tryz.func104,Tryz.ntmps104
   go_wp2
   go_ret
   exact ⟨ret_bool (by rw [← HV.out];rfl),rfl⟩
  ·have hz':((z:Int) == 10) = false:=by simp;omega
   go_enter Tryz.func104,Tryz.ntmps104
   go_wp2
   go_ret
   exact ⟨ret_bool (by rw [← HV.out];simp [hz]),rfl⟩
theorem stepJ_blank {st:List UInt8 × Bool} {c:UInt8} (h:c.toNat = 32):stepJ st c = (st.1,true):=by simp [stepJ,h]
theorem stepJ_free {K:List UInt8} {c:UInt8} (h:¬ c.toNat = 32):stepJ (K,false) c = (K ++ [c],false):=by simp [stepJ,h]
theorem stepJ_ten {K:List UInt8} {c:UInt8} (h:c.toNat = 10):stepJ (K,true) c = (K ++ [c],false):=by simp [stepJ,h]
theorem stepJ_begins {K:List UInt8} {c:UInt8} (h:¬ c.toNat = 32) (hb:begins K = true):stepJ (K,true) c = (K ++ [c],false):=by simp [stepJ,h,hb]
theorem stepJ_held {K:List UInt8} {c:UInt8} (h:¬ c.toNat = 32) (h':¬ c.toNat = 10) (hb:begins K = false):stepJ (K,true) c = ((K ++ [32]) ++ [c],false):=by simp [stepJ,h,h',hb]
theorem own_snoc {w:World} {B n:Nat} {v:Value} {K:List UInt8} {c:UInt8} {z:Int} (hz:z = (c.toNat:Int)) (hn:n = K.length) (h:w.ownsRow B 5 1 v (n + 1) (K.map encU ++ [.int .u8 z])) :
  w.ownsRow B 5 1 v (K ++ [c]).length ((K ++ [c]).map encU):=by
 subst hn;subst hz
 rw [List.length_append,List.map_append]
 exact h
set_option maxHeartbeats 4000000 in
theorem joinBlanks_any (g cap n:Nat) (l:List UInt8) (w:World) (hn:n = l.length) (hl:n ≤ 200) (hB:BRow w g l) :
  Calls Tryz.prog 89 #[.slice (some ⟨g,0,none⟩) n cap] w fun e w'=>∃ v,e = .returned v ∧ w'.ownsRow w.heap.size 5 1 v (joinK l n).1.length ((joinK l n).1.map encU) ∧ Below w.heap.size w w':=by
 obtain ⟨i0,hi,hz0,hz1,hz2⟩:=info_parts Tryz.infoU8
 have HN:Hid (n = l.length):=hn
 clear hn
 go_enter Tryz.func89,Tryz.ntmps89
 go_wp2_with (at_make;refine wpList_make_own _ rfl _ _ 22 rfl w.heap.size 5 i0 (.int .u8 0) 1 Tryz.underlying22 hi hz0 hz1 .i64 .i64 n n rfl rfl rfl (by rw [hz2];omega) (by unfold maxLen;omega) (Nat.le_refl _) ?_;intro w1 hown1 hgrow1)
 have hb1:=(Below.refl w.heap.size w).grown hgrow1 (Nat.le_refl _) (by intro k h;cases h)
 clear hgrow1
 go_loopw [3,4,12] (fun v h i wr=>∃ k:Nat,k ≤ n ∧ i = .int .i64 k ∧ h = .bool (joinK l k).2 ∧ wr.ownsRow w.heap.size 5 1 v (joinK l k).1.length ((joinK l k).1.map encU) ∧ Below w.heap.size w wr) (fun _ _ i _=>n - (intOf i).toNat)
 case atStart=>exact ⟨0,Nat.zero_le _,rfl,rfl,hown1,hb1⟩
 case round =>
  obtain ⟨k,hk,rfl,rfl,hown,hbw⟩:=hrel
  clear hown1 hb1
  by_cases hlt:k < n
  ·have hkl:k < l.length:=by rw [← HN.out];exact hlt
   have hc:wr.cell? ⟨g,k,none⟩ = some (.int .u8 ((l.getD k 0).toNat:Int)):=(hbw.cell (p:=⟨g,k,none⟩) hB.1).trans (hB.2.1 k hkl)
   have HJ:Hid (joinK l (k + 1) = stepJ (joinK l k) (l.getD k 0)):=joinK_next l k hkl
   have hKl:=joinK_le l k (by omega)
   generalize l.getD k 0 = c at hc HJ
   obtain ⟨z,hz⟩:∃ z:Nat,z = c.toNat:=⟨_,rfl⟩
   obtain ⟨st,hst⟩:∃ st,st = joinK l k:=⟨_,rfl⟩
   rw [← hst] at hown HJ hKl ⊢
   rw [← hz] at hc
   have HZ:Hid (z = c.toNat):=hz
   clear hst hB hkl hz
   obtain ⟨K,hd⟩:=st
   dsimp only at hown hKl
   by_cases h32:z = 32
   ·have HJ2:Hid (joinK l (k + 1) = (K,true)):=HJ.out.trans (stepJ_blank (HZ.out.symm.trans h32))
    subst h32
    clear HJ HZ
    go_wp2
    go_roundw
    case rel=>exact ⟨k + 1,by omega,by go_num,by rw [HJ2.out],by rw [HJ2.out];exact hown,hbw⟩
    case measure=>simp [intOf];omega
   ·have hn32:¬ c.toNat = 32:=fun h=>h32 (HZ.out.trans h)
    have b32:((z:Int) == 32) = false:=by simp;omega
    have d32:((z:Int) != 32) = true:=by simp;omega
    cases hd
    ·have HJ2:Hid (joinK l (k + 1) = (K ++ [c],false)):=HJ.out.trans (stepJ_free hn32)
     clear HJ hn32
     go_wp2_with (at_builtin;refine wpList_append_own _ rfl (.tmp 31) (.tmp 33) 22 rfl w.heap.size 5 i0 (.int .u8 0) 1 1 Tryz.underlying22 hi hz0 hz1 hz2 rfl (by decide) _ _ _ rfl (hown.alloc _) ⟨wr.heap.size,0,none⟩ 1 1 [.int .u8 z] rfl rfl (cell_one_new _ _ _) (one_u8 z) (by unfold maxLen;omega) (by omega) (by have:=hbw.size;simp;omega) ?_)
     intro v' w2 hown2 hgrow2 _
     have R1:=own_snoc (c:=c) (by rw [HZ.out]) rfl hown2
     have R2:Below w.heap.size w w2:=(hbw.alloc hbw.size _).grown hgrow2 (by have:=hbw.size;simp;omega) (fun j hj=>own_lo hown j hj)
     clear hown2 hgrow2 hown hbw hc
     go_wp2
     go_roundw
     case rel=>exact ⟨k + 1,by omega,by go_num,by rw [HJ2.out],by rw [HJ2.out];exact R1,R2⟩
     case measure=>simp [intOf];omega
    ·by_cases h10:z = 10
     ·have HJ2:Hid (joinK l (k + 1) = (K ++ [c],false)):=HJ.out.trans (stepJ_ten (HZ.out.symm.trans h10))
      subst h10
      clear HJ hn32
      go_wp2_with (at_builtin;refine wpList_append_own _ rfl (.tmp 31) (.tmp 33) 22 rfl w.heap.size 5 i0 (.int .u8 0) 1 1 Tryz.underlying22 hi hz0 hz1 hz2 rfl (by decide) _ _ _ rfl (hown.alloc _) ⟨wr.heap.size,0,none⟩ 1 1 [.int .u8 10] rfl rfl (cell_one_new _ _ _) (one_u8 10) (by unfold maxLen;omega) (by omega) (by have:=hbw.size;simp;omega) ?_)
      intro v' w2 hown2 hgrow2 _
      have R1:=own_snoc (c:=c) (by rw [← HZ.out];rfl) rfl hown2
      have R2:Below w.heap.size w w2:=(hbw.alloc hbw.size _).grown hgrow2 (by have:=hbw.size;simp;omega) (fun j hj=>own_lo hown j hj)
      clear hown2 hgrow2 hown hbw hc
      go_wp2
      go_roundw
      case rel=>exact ⟨k + 1,by omega,by go_num,by rw [HJ2.out],by rw [HJ2.out];exact R1,R2⟩
      case measure=>simp [intOf];omega
     ·have hn10:¬ c.toNat = 10:=fun h=>h10 (HZ.out.trans h)
      have b10:((z:Int) == 10) = false:=by simp;omega
      have d10:((z:Int) != 10) = true:=by simp;omega
      have BG':=beginsLine_any w.heap.size K.length _ K wr rfl (by omega) hown
      cases hbg:begins K
      ·have HJ2:Hid (joinK l (k + 1) = ((K ++ [32]) ++ [c],false)):=HJ.out.trans (stepJ_held hn32 hn10 hbg)
       rw [hbg] at BG'
       clear HJ hn32 hn10 hbg
       go_wp2_with (first | (go_at_call 104;refine BG'.mono ?_;rintro e w' ⟨rfl,hw⟩;have hw:=hw.symm;subst hw) | (at_builtin;refine wpList_append_own _ rfl (.tmp 28) (.tmp 29) 22 rfl w.heap.size 5 i0 (.int .u8 0) 1 1 Tryz.underlying22 hi hz0 hz1 hz2 rfl (by decide) _ _ _ rfl (hown.alloc _) ⟨wr.heap.size,0,none⟩ 1 1 [.int .u8 32] rfl rfl (cell_one_new _ _ _) (one_u8 32) (by unfold maxLen;omega) (by omega) (by have:=hbw.size;simp;omega) ?_))
       intro v' w2 hown2 hgrow2 _
       have R1:=own_snoc (c:=32) rfl rfl hown2
       have R2:Below w.heap.size w w2:=(hbw.alloc hbw.size _).grown hgrow2 (by have:=hbw.size;simp;omega) (fun j hj=>own_lo hown j hj)
       have hKl2:(K ++ [32]).length ≤ n + 1:=by rw [List.length_append,List.length_singleton];omega
       clear hown2 hgrow2 hown hbw hc BG'
       go_wp2_with (at_builtin;refine wpList_append_own _ rfl (.tmp 31) (.tmp 33) 22 rfl w.heap.size 5 i0 (.int .u8 0) 1 1 Tryz.underlying22 hi hz0 hz1 hz2 rfl (by decide) _ _ _ rfl (R1.alloc _) ⟨w2.heap.size,0,none⟩ 1 1 [.int .u8 z] rfl rfl (cell_one_new _ _ _) (one_u8 z) (by unfold maxLen;omega) (by omega) (by have:=R2.size;simp;omega) ?_)
       intro v'' w3 hown3 hgrow3 _
       have R3:=own_snoc (w:=w3) (B:=w.heap.size) (v:=v'') (n:=K.length + 1) (K:=K ++ [32]) (c:=c) (z:=(z:Int)) (by rw [HZ.out]) (by simp) (by simpa using hown3)
       have R4:Below w.heap.size w w3:=(R2.alloc R2.size _).grown hgrow3 (by have:=R2.size;simp;omega) (fun j hj=>own_lo R1 j hj)
       clear hown3 hgrow3 R1 R2
       go_wp2
       go_roundw
       case rel=>exact ⟨k + 1,by omega,by go_num,by rw [HJ2.out],by rw [HJ2.out];exact R3,R4⟩
       case measure=>simp [intOf];omega
      ·have HJ2:Hid (joinK l (k + 1) = (K ++ [c],false)):=HJ.out.trans (stepJ_begins hn32 hbg)
       rw [hbg] at BG'
       clear HJ hn32 hn10 hbg
       go_wp2_with (first | (go_at_call 104;refine BG'.mono ?_;rintro e w' ⟨rfl,hw⟩;have hw:=hw.symm;subst hw) | (at_builtin;refine wpList_append_own _ rfl (.tmp 31) (.tmp 33) 22 rfl w.heap.size 5 i0 (.int .u8 0) 1 1 Tryz.underlying22 hi hz0 hz1 hz2 rfl (by decide) _ _ _ rfl (hown.alloc _) ⟨wr.heap.size,0,none⟩ 1 1 [.int .u8 z] rfl rfl (cell_one_new _ _ _) (one_u8 z) (by unfold maxLen;omega) (by omega) (by have:=hbw.size;simp;omega) ?_))
       intro v' w2 hown2 hgrow2 _
       have R1:=own_snoc (c:=c) (by rw [HZ.out]) rfl hown2
       have R2:Below w.heap.size w w2:=(hbw.alloc hbw.size _).grown hgrow2 (by have:=hbw.size;simp;omega) (fun j hj=>own_lo hown j hj)
       clear hown2 hgrow2 hown hbw hc BG'
       go_wp2
       go_roundw
       case rel=>exact ⟨k + 1,by omega,by go_num,by rw [HJ2.out],by rw [HJ2.out];exact R1,R2⟩
       case measure=>simp [intOf];omega
  ·have e:k = n:=by omega
   subst e
   go_wp2
   go_ret
   exact ⟨_,rfl,hown,hbw⟩
theorem keep_no {white:Int} {s:ByteArray} (h:keepB white s = false):Value.tuple #[.string ⟨#[]⟩,.bool false] = .tuple #[.string (keepN white s),.bool (keepB white s)]:=by
 have e:keepN white s = ⟨#[]⟩:=by
  unfold keepN
  rw [if_neg]
  intro g
  unfold keepB at h
  rw [g.1,g.2] at h
  cases h
 rw [e,h]
theorem keep_yes {white:Int} {s:ByteArray} {l:List UInt8} (h:keepB white s = true) (hl:l = keepL white s.data.toList):Value.tuple #[.string ⟨l.toArray⟩,.bool true] = .tuple #[.string (keepN white s),.bool (keepB white s)]:=by
 have e:keepN white s = ⟨l.toArray⟩:=by
  unfold keepN
  rw [if_pos (by simpa [keepB] using h),hl]
 rw [e,h]
theorem keepL_pre {white:Int} (l:List UInt8) (h:white = 3 ∨ white = 4):l.map (blk 9) = keepL white l:=by
 unfold keepL
 rw [if_pos h,decide_eq_false (by omega),blk_one]
theorem keepL_line (l:List UInt8):(joinK (l.map (blk 9)) l.length).1 = keepL 5 l:=by
 unfold keepL
 rw [if_neg (by omega),decide_eq_false (by omega),blk_one]
theorem keepL_two {white:Int} (l:List UInt8) (h:white = 1 ∨ white = 2):(joinK ((l.map (blk 9)).map (blk 10)) l.length).1 = keepL white l:=by
 unfold keepL
 rw [if_neg (by omega),decide_eq_true (by omega),blk_two]
theorem size_bytesRow (s:ByteArray) (cap:Nat):s.size ≤ (bytesRow s cap).size:=by
 simp [bytesRow]
theorem below_undrew2 {w w1:World} {o:Obj} (h:Below w.heap.size (w.alloc o).drew w1):Below w.heap.size w w1 :=
 ((Below.refl w.heap.size w).alloc (Nat.le_refl _) o).trans ⟨h.os,h.tape,h.output,h.size,h.block⟩
set_option maxHeartbeats 4000000 in
theorem implKeep_any (white:Int) (s:ByteArray) (w:World) (hs:s.size ≤ maxLen) :
  Calls Tryz.prog 69 #[.int .i64 white,.string s] w fun e w'=>e = .returned (.tuple #[.string (keepN white s),.bool (keepB white s)]) ∧ Below w.heap.size w w':=by
 have PL:=fun w=>isText_any s w hs
 unfold maxLen at hs
 cases hW:inB 1 5 white
 ·have HV:Hid (_ = _):=keep_no (white:=white) (s:=s) (by simp [keepB,hW])
  go_enter Tryz.func69,Tryz.ntmps69
  go_wp2_with (go_at_call 87;refine (isWhite_any _ _).mono ?_;rintro e w' ⟨rfl,rfl⟩)
  go_ret2
  exact ⟨congrArg Ending.returned HV.out,Below.refl _ _⟩
 cases hT:okB true s
 ·have HV:Hid (_ = _):=keep_no (white:=white) (s:=s) (by simp [keepB,hT])
  rw [hT] at PL
  go_enter Tryz.func69,Tryz.ntmps69
  go_wp2_with (first | (go_at_call 87;refine (isWhite_any _ _).mono ?_;rintro e w' ⟨rfl,rfl⟩) | (go_at_call 84;refine (PL _).mono ?_;rintro e w' ⟨rfl,rfl⟩))
  go_ret2
  exact ⟨congrArg Ending.returned HV.out,Below.refl _ _⟩
 have HB:Hid (keepB white s = true):=by show _ = _;simp [keepB,hW,hT]
 have h200:=(okB_yes hT).1
 rw [hT] at PL
 have kb:=fun (w:World)=>run_bytes_of_string (P:=Tryz.prog) w 9 22 5 s Tryz.underlying9 Tryz.underlying22 Tryz.underlying5
 have hw5:white = 1 ∨ white = 2 ∨ white = 3 ∨ white = 4 ∨ white = 5:=by have:=inB_yes hW;omega
 have hsz:s.data.toList.length = s.size:=by simp
 obtain ⟨l,hl⟩:∃ l,l = s.data.toList:=⟨_,rfl⟩
 rw [← hl] at hsz
 have HL:Hid (l = s.data.toList):=hl
 have HS:Hid (s.size = l.length):=hsz.symm
 clear hl hsz hT
 rcases hw5 with h | h | h | h | h
 all_goals subst h
 ·go_enter Tryz.func69,Tryz.ntmps69
  go_wp2_with (first | (go_at_call 87;refine (isWhite_any _ _).mono ?_;rintro e w' ⟨rfl,hw⟩;have hw:=hw.symm;subst hw) | (go_at_call 84;refine (PL _).mono ?_;rintro e w' ⟨rfl,hw⟩;have hw:=hw.symm;subst hw))
  refine (blankOut_any _ _ 9 l s.size _ HS.out h200 (by rw [HL.out];exact brow_new _ s _ _ (size_bytesRow s _))).mono ?_
  rintro e w1 ⟨⟨v1,rfl⟩,hB1,hb1⟩
  have hb1':Below w.heap.size w w1:=below_undrew2 hb1
  have HS1:Hid (s.size = (l.map (blk 9)).length):=by show _ = _;rw [List.length_map];exact HS.out
  clear hb1 PL kb
  go_wp2_with fail
  refine (blankOut_any _ _ 10 (l.map (blk 9)) s.size _ HS1.out h200 hB1).mono ?_
  rintro e w2 ⟨⟨v2,rfl⟩,hB2,hb2⟩
  have hb2':=hb1'.trans hb2
  have HS2:Hid (s.size = ((l.map (blk 9)).map (blk 10)).length):=by show _ = _;rw [List.length_map];exact HS1.out
  have HJ:Hid (∀ n,n = l.length → (joinK ((l.map (blk 9)).map (blk 10)) n).1 = keepL 1 s.data.toList):=fun n hn=>by subst hn;rw [← HL.out];exact keepL_two l (by omega)
  generalize (l.map (blk 9)).map (blk 10) = l2 at hB2 HS2 HJ
  clear hb1' hb2 hB1
  go_wp2_with fail
  refine (joinBlanks_any _ _ s.size l2 _ HS2.out h200 hB2).mono ?_
  rintro e w3 ⟨v3,rfl,hown,hb3⟩
  have hb3':=hb2'.trans (hb3.mono hb2'.size)
  have kc:=own_back rfl hown
  have HV:Hid (_ = _):=keep_yes HB.out (HJ.out s.size HS.out)
  clear hown hb3 hb2' hB2
  go_wp2
  go_ret2
  exact ⟨congrArg Ending.returned HV.out,hb3'⟩
 ·go_enter Tryz.func69,Tryz.ntmps69
  go_wp2_with (first | (go_at_call 87;refine (isWhite_any _ _).mono ?_;rintro e w' ⟨rfl,hw⟩;have hw:=hw.symm;subst hw) | (go_at_call 84;refine (PL _).mono ?_;rintro e w' ⟨rfl,hw⟩;have hw:=hw.symm;subst hw))
  refine (blankOut_any _ _ 9 l s.size _ HS.out h200 (by rw [HL.out];exact brow_new _ s _ _ (size_bytesRow s _))).mono ?_
  rintro e w1 ⟨⟨v1,rfl⟩,hB1,hb1⟩
  have hb1':Below w.heap.size w w1:=below_undrew2 hb1
  have HS1:Hid (s.size = (l.map (blk 9)).length):=by show _ = _;rw [List.length_map];exact HS.out
  clear hb1 PL kb
  go_wp2_with fail
  refine (blankOut_any _ _ 10 (l.map (blk 9)) s.size _ HS1.out h200 hB1).mono ?_
  rintro e w2 ⟨⟨v2,rfl⟩,hB2,hb2⟩
  have hb2':=hb1'.trans hb2
  have HS2:Hid (s.size = ((l.map (blk 9)).map (blk 10)).length):=by show _ = _;rw [List.length_map];exact HS1.out
  have HJ:Hid (∀ n,n = l.length → (joinK ((l.map (blk 9)).map (blk 10)) n).1 = keepL 2 s.data.toList):=fun n hn=>by subst hn;rw [← HL.out];exact keepL_two l (by omega)
  generalize (l.map (blk 9)).map (blk 10) = l2 at hB2 HS2 HJ
  clear hb1' hb2 hB1
  go_wp2_with fail
  refine (joinBlanks_any _ _ s.size l2 _ HS2.out h200 hB2).mono ?_
  rintro e w3 ⟨v3,rfl,hown,hb3⟩
  have hb3':=hb2'.trans (hb3.mono hb2'.size)
  have kc:=own_back rfl hown
  have HV:Hid (_ = _):=keep_yes HB.out (HJ.out s.size HS.out)
  clear hown hb3 hb2' hB2
  go_wp2
  go_ret2
  exact ⟨congrArg Ending.returned HV.out,hb3'⟩
 ·go_enter Tryz.func69,Tryz.ntmps69
  go_wp2_with (first | (go_at_call 87;refine (isWhite_any _ _).mono ?_;rintro e w' ⟨rfl,hw⟩;have hw:=hw.symm;subst hw) | (go_at_call 84;refine (PL _).mono ?_;rintro e w' ⟨rfl,hw⟩;have hw:=hw.symm;subst hw))
  refine (blankOut_any _ _ 9 l s.size _ HS.out h200 (by rw [HL.out];exact brow_new _ s _ _ (size_bytesRow s _))).mono ?_
  rintro e w1 ⟨⟨v1,rfl⟩,hB1,hb1⟩
  have hb1':Below w.heap.size w w1:=below_undrew2 hb1
  have HS1:Hid (s.size = (l.map (blk 9)).length):=by show _ = _;rw [List.length_map];exact HS.out
  clear hb1 PL kb
  have kc:=hB1.back (grownCap w s.size 0 5)
  rw [← HS1.out] at kc
  have HV:Hid (_ = _):=keep_yes (l:=l.map (blk 9)) HB.out (by rw [← HL.out];exact keepL_pre l (by omega))
  go_wp2
  go_ret2
  exact ⟨congrArg Ending.returned HV.out,hb1'⟩
 ·go_enter Tryz.func69,Tryz.ntmps69
  go_wp2_with (first | (go_at_call 87;refine (isWhite_any _ _).mono ?_;rintro e w' ⟨rfl,hw⟩;have hw:=hw.symm;subst hw) | (go_at_call 84;refine (PL _).mono ?_;rintro e w' ⟨rfl,hw⟩;have hw:=hw.symm;subst hw))
  refine (blankOut_any _ _ 9 l s.size _ HS.out h200 (by rw [HL.out];exact brow_new _ s _ _ (size_bytesRow s _))).mono ?_
  rintro e w1 ⟨⟨v1,rfl⟩,hB1,hb1⟩
  have hb1':Below w.heap.size w w1:=below_undrew2 hb1
  have HS1:Hid (s.size = (l.map (blk 9)).length):=by show _ = _;rw [List.length_map];exact HS.out
  clear hb1 PL kb
  have kc:=hB1.back (grownCap w s.size 0 5)
  rw [← HS1.out] at kc
  have HV:Hid (_ = _):=keep_yes (l:=l.map (blk 9)) HB.out (by rw [← HL.out];exact keepL_pre l (by omega))
  go_wp2
  go_ret2
  exact ⟨congrArg Ending.returned HV.out,hb1'⟩
 ·go_enter Tryz.func69,Tryz.ntmps69
  go_wp2_with (first | (go_at_call 87;refine (isWhite_any _ _).mono ?_;rintro e w' ⟨rfl,hw⟩;have hw:=hw.symm;subst hw) | (go_at_call 84;refine (PL _).mono ?_;rintro e w' ⟨rfl,hw⟩;have hw:=hw.symm;subst hw))
  refine (blankOut_any _ _ 9 l s.size _ HS.out h200 (by rw [HL.out];exact brow_new _ s _ _ (size_bytesRow s _))).mono ?_
  rintro e w1 ⟨⟨v1,rfl⟩,hB1,hb1⟩
  have hb1':Below w.heap.size w w1:=below_undrew2 hb1
  have HS1:Hid (s.size = (l.map (blk 9)).length):=by show _ = _;rw [List.length_map];exact HS.out
  clear hb1 PL kb
  have HJ:Hid (∀ n,n = l.length → (joinK (l.map (blk 9)) n).1 = keepL 5 s.data.toList):=fun n hn=>by subst hn;rw [← HL.out];exact keepL_line l
  generalize l.map (blk 9) = l2 at hB1 HS1 HJ
  go_wp2_with fail
  refine (joinBlanks_any _ _ s.size l2 _ HS1.out h200 hB1).mono ?_
  rintro e w3 ⟨v3,rfl,hown,hb3⟩
  have hb3':=hb1'.trans (hb3.mono hb1'.size)
  have kc:=own_back rfl hown
  have HV:Hid (_ = _):=keep_yes HB.out (HJ.out s.size HS.out)
  clear hown hb3 hb1' hB1
  go_wp2
  go_ret2
  exact ⟨congrArg Ending.returned HV.out,hb3'⟩
theorem blkS_yes {two:Bool} {c:UInt8} (h:c.toNat = 9 ∨ (c.toNat = 10 ∧ two = true)):blkS two c = 32:=by unfold blkS;rw [if_pos h]
theorem blkS_no {two:Bool} {c:UInt8} (h:¬ (c.toNat = 9 ∨ (c.toNat = 10 ∧ two = true))):blkS two c = c:=by unfold blkS;rw [if_neg h]
theorem own_next {w:World} {B:Nat} {v:Value} {L K:List UInt8} {c:UInt8} {z:Int} (hL:L = K ++ [c]) (hz:z = (c.toNat:Int)) (h:w.ownsRow B 5 1 v (K.length + 1) (K.map encU ++ [.int .u8 z])) :
  w.ownsRow B 5 1 v L.length (L.map encU):=by subst hL;exact own_snoc hz rfl h
set_option maxRecDepth 100000 in
set_option maxHeartbeats 8000000 in
theorem specKeepL_any (white:Int) (s:ByteArray) (w:World) (hw1:1 ≤ white) (hw5:white ≤ 5) (h200:s.size ≤ 200) :
  Calls Tryz.prog 90 #[.int .i64 white,.string s] w fun e w'=>e = .returned (.string ⟨(keepL white s.data.toList).toArray⟩) ∧ Below w.heap.size w w':=by
 obtain ⟨i0,hi,hz0,hz1,hz2⟩:=info_parts Tryz.infoU8
 have kb:=fun (w:World)=>run_bytes_of_string (P:=Tryz.prog) w 9 22 5 s Tryz.underlying9 Tryz.underlying22 Tryz.underlying5
 have hsz:s.data.toList.length = s.size:=by simp
 have hB0:=fun cap lo (h:s.size ≤ lo)=>brow_new w s cap lo h
 have hK:Hid (∀ b,b = s.data.toList.map (blkS (decide (white ≤ 2))) → (white = 3 ∨ white = 4 → b = keepL white s.data.toList) ∧ (¬ (white = 3 ∨ white = 4) → ∀ n,n = b.length → outK b n = keepL white s.data.toList)):=by
  intro b hb
  subst hb
  refine ⟨fun h=>?_,fun h n hn=>?_⟩
  ·unfold keepL;rw [if_pos h]
  ·subst hn;rw [outK_all];unfold keepL;rw [if_neg h,List.length_map]
 obtain ⟨r,hr⟩:∃ r,r = keepL white s.data.toList:=⟨_,rfl⟩
 rw [← hr] at hK ⊢
 obtain ⟨l,hl⟩:∃ l,l = s.data.toList:=⟨_,rfl⟩
 rw [← hl] at hsz hB0 hK
 have HS:Hid (s.size = l.length):=hsz.symm
 clear hl hsz hr
 go_enter Tryz.func90,Tryz.ntmps90
 go_wp2_with fail
 go_loopw [16] (fun i wr=>∃ k:Nat,k ≤ s.size ∧ i = .int .i64 k ∧ BRow wr w.heap.size (mapTo (blkS (decide (white ≤ 2))) l k) ∧ Below w.heap.size w wr) (fun i _=>s.size - (intOf i).toNat)
 case atStart=>exact ⟨0,Nat.zero_le _,rfl,by rw [mapTo_zero];exact hB0 _ _ (size_bytesRow s _),below_undrew2 (Below.refl _ _)⟩
 case round =>
  obtain ⟨k,hk,rfl,hR,hbw⟩:=hrel
  clear hB0 kb
  by_cases hlt:k < s.size
  ·have hkL:k < l.length:=by rw [← HS.out];exact hlt
   have hkl:k < (mapTo (blkS (decide (white ≤ 2))) l k).length:=by rw [mapTo_len];exact hkL
   have hc:=hR.2.1 k hkl
   have hf:=hR.2.2 k hkl
   rw [mapTo_at _ _ _ hkL] at hc
   have Ryes:(l.getD k 0).toNat = 9 ∨ ((l.getD k 0).toNat = 10 ∧ decide (white ≤ 2) = true) → Hid (BRow (wr.setCell ⟨w.heap.size,k,none⟩ (.int .u8 32)) w.heap.size (mapTo (blkS (decide (white ≤ 2))) l (k + 1))):=fun h=>by
    have R:=hR.set hkl 32 32 rfl
    rw [← blkS_yes h,← mapTo_next _ _ _ hkL] at R
    exact R
   have Rno:¬ ((l.getD k 0).toNat = 9 ∨ ((l.getD k 0).toNat = 10 ∧ decide (white ≤ 2) = true)) → Hid (BRow wr w.heap.size (mapTo (blkS (decide (white ≤ 2))) l (k + 1))):=fun h=>by
    rw [mapTo_same (blkS (decide (white ≤ 2))) l k hkL (blkS_no h)]
    exact hR
   have R2:=hbw.setCell (p:=⟨w.heap.size,k,none⟩) (Nat.le_refl _) (.int .u8 32)
   generalize (l.getD k 0).toNat = z at hc Ryes Rno
   clear hR hkl hkL hK HS
   by_cases h9:z = 9
   ·have R:=Ryes (.inl h9)
    subst h9
    clear Ryes Rno
    go_wp2
    go_roundw
    case rel=>exact ⟨k + 1,by omega,by go_num,R.out,R2⟩
    case measure=>simp [intOf];omega
   ·have b9:((z:Int) == 9) = false:=by simp;omega
    by_cases h10:z = 10
    ·by_cases h2:white ≤ 2
     ·have R:=Ryes (.inr ⟨h10,by simpa using h2⟩)
      subst h10
      clear Ryes Rno
      go_wp2
      go_roundw
      case rel=>exact ⟨k + 1,by omega,by go_num,R.out,R2⟩
      case measure=>simp [intOf];omega
     ·have R:=Rno (by simp;omega)
      have h2':decide (white ≤ 2) = false:=by simpa using h2
      subst h10
      clear Ryes Rno
      go_wp2
      go_roundw
      case rel=>exact ⟨k + 1,by omega,by go_num,R.out,hbw⟩
      case measure=>simp [intOf];omega
    ·have R:=Rno (by omega)
     have b10:((z:Int) == 10) = false:=by simp;omega
     clear Ryes Rno
     go_wp2
     go_roundw
     case rel=>exact ⟨k + 1,by omega,by go_num,R.out,hbw⟩
     case measure=>simp [intOf];omega
  ·have e:k = s.size:=by omega
   subst e
   rw [show mapTo (blkS (decide (white ≤ 2))) l s.size = l.map (blkS (decide (white ≤ 2))) by rw [HS.out,mapTo_all]] at hR
   have HB:Hid (s.size = (l.map (blkS (decide (white ≤ 2)))).length):=by show _ = _;rw [List.length_map];exact HS.out
   have HK:Hid ((white = 3 ∨ white = 4 → l.map (blkS (decide (white ≤ 2))) = r) ∧ (¬ (white = 3 ∨ white = 4) → ∀ n,n = (l.map (blkS (decide (white ≤ 2)))).length → outK (l.map (blkS (decide (white ≤ 2)))) n = r)):=hK.out _ rfl
   generalize l.map (blkS (decide (white ≤ 2))) = b at hR HB HK
   clear hK HS
   by_cases h3:white = 3
   ·have kc:=hR.back (grownCap w s.size 0 5)
    rw [← HB.out,HK.out.1 (.inl h3)] at kc
    subst h3
    go_wp2
    go_ret
    exact ⟨rfl,hbw⟩
   by_cases h4:white = 4
   ·have kc:=hR.back (grownCap w s.size 0 5)
    rw [← HB.out,HK.out.1 (.inr h4)] at kc
    subst h4
    go_wp2
    go_ret
    exact ⟨rfl,hbw⟩
   have b3:(white == 3) = false:=by simp;omega
   have b4:(white == 4) = false:=by simp;omega
   have HK2:Hid (outK b s.size = r):=HK.out.2 (by omega) s.size HB.out
   clear HK
   obtain ⟨wa,hwa⟩:∃ wa,wa = wr:=⟨_,rfl⟩
   subst hwa
   have hown00:=World.ownsRow_nil wa wa.heap.size 5 1
   go_wp2_with fail
   go_loopw [8,45] (fun v i wr=>∃ k:Nat,k ≤ s.size ∧ i = .int .i64 k ∧ wr.ownsRow wa.heap.size 5 1 v (outK b k).length ((outK b k).map encU) ∧ Below wa.heap.size wa wr) (fun _ i _=>s.size - (intOf i).toNat)
   case atStart=>exact ⟨0,Nat.zero_le _,rfl,by rw [outK_zero];exact hown00,Below.refl _ _⟩
   case round =>
    obtain ⟨k,hk,rfl,hown,hbo⟩:=hrel
    clear hown00
    by_cases hlt:k < s.size
    ·have HC:Hid (∀ j,j < s.size → wr.cell? ⟨w.heap.size,j,none⟩ = some (.int .u8 ((b.getD j 0).toNat:Int))):=fun j hj=>(hbo.cell (p:=⟨w.heap.size,j,none⟩) hR.1).trans (hR.2.1 j (by rw [← HB.out];exact hj))
     have hck:=HC.out k hlt
     have hkb:k < b.length:=by rw [← HB.out];exact hlt
     have hle:=outK_le b k (by omega)
     have HO:Hid ((b.getD k 0).toNat ≠ 32 → outK b (k + 1) = outK b k ++ [b.getD k 0]):=outK_other b k hkb
     have HSK:Hid ((b.getD k 0).toNat = 32 → ∀ m,k ≤ m → m ≤ s.size → (∀ j,k ≤ j → j < m → (b.getD j 0).toNat = 32) → (m < s.size → (b.getD m 0).toNat ≠ 32) → (skipB b m (outK b k) → outK b (k + 1) = outK b k) ∧ (¬ skipB b m (outK b k) → outK b (k + 1) = outK b k ++ [32])):=fun h m a1 a2 a3 a4=>outK_blank b k m hkb h a1 (by rw [← HB.out];exact a2) a3 (by rw [← HB.out];exact a4)
     clear hkb hR
     by_cases h32:(b.getD k 0).toNat = 32
     rotate_left
     ·have HO:=HO.out h32
      obtain ⟨z,hz⟩:∃ z:Nat,z = (b.getD k 0).toNat:=⟨_,rfl⟩
      rw [← hz] at hck h32
      have HZ:Hid (z = (b.getD k 0).toNat):=hz
      have b32:((z:Int) == 32) = false:=by simp;omega
      have d32:((z:Int) != 32) = true:=by simp;omega
      have HO:Hid (outK b (k + 1) = outK b k ++ [b.getD k 0]):=HO
      clear hz HC HSK
      go_wp2_with (at_builtin;refine wpList_append_own _ rfl (.tmp 52) (.tmp 54) 22 rfl wa.heap.size 5 i0 (.int .u8 0) 1 1 Tryz.underlying22 hi hz0 hz1 hz2 rfl (by decide) _ _ _ rfl (hown.alloc _) ⟨wr.heap.size,0,none⟩ 1 1 [.int .u8 z] rfl rfl (cell_one_new _ _ _) (one_u8 z) (by unfold maxLen;omega) (by omega) (by have:=hbo.size;simp;omega) ?_)
      intro v' w2 hown2 hgrow2 _
      have R1:=own_next (z:=(z:Int)) (c:=b.getD k 0) (K:=outK b k) (L:=outK b (k + 1)) (HO.out) (by rw [HZ.out]) (by simpa using hown2)
      have R2:Below wa.heap.size wa w2:=(hbo.alloc hbo.size _).grown hgrow2 (by have:=hbo.size;simp;omega) (fun j hj=>own_lo hown j hj)
      clear hown2 hgrow2 hown hbo
      go_wp2
      go_roundw
      case rel=>exact ⟨k + 1,by omega,by go_num,R1,R2⟩
      case measure=>simp [intOf];omega
     ·rw [h32] at hck
      have HSK:Hid (∀ m,k ≤ m → m ≤ s.size → (∀ j,k ≤ j → j < m → (b.getD j 0).toNat = 32) → (m < s.size → (b.getD m 0).toNat ≠ 32) → (skipB b m (outK b k) → outK b (k + 1) = outK b k) ∧ (¬ skipB b m (outK b k) → outK b (k + 1) = outK b k ++ [32])):=HSK.out h32
      obtain ⟨ao,co,rfl,hco⟩:=own_val hown
      clear HO
      go_wp2_with fail
      go_loop [11] (fun i=>∃ m:Nat,k ≤ m ∧ m ≤ s.size ∧ i = .int .i64 m ∧ ∀ j,k ≤ j → j < m → (b.getD j 0).toNat = 32) (fun i=>s.size - (intOf i).toNat)
      case atStart=>exact ⟨k,Nat.le_refl _,by omega,rfl,fun j h1 h2=>absurd h2 (by omega)⟩
      case round =>
       obtain ⟨m,hm1,hm2,rfl,hall⟩:=hrel
       by_cases hmn:m < s.size
       rotate_left
       ·have e:m = s.size:=by omega
        subst e
        have HSK:Hid (_ ∧ _):=HSK.out s.size hm1 (Nat.le_refl _) hall (fun h=>absurd h (by omega))
        clear hall HC hco
        have R1:=HSK.out.1 (.inl HB.out)
        clear HSK
        go_wp2
        go_roundw
        case rel=>exact ⟨k + 1,by omega,by go_num,by rw [R1];exact hown,hbo⟩
        case measure=>simp [intOf];omega
       ·have hcm:=HC.out m hmn
        by_cases hz32:(b.getD m 0).toNat = 32
        ·have hall':Hid (∀ j,k ≤ j → j < m + 1 → (b.getD j 0).toNat = 32):=fun j h1 h2=>by
          by_cases e:j = m
          ·subst e;exact hz32
          ·exact hall j h1 (by omega)
         rw [hz32] at hcm
         clear hall HC hco
         go_wp2
         go_round
         case rel=>exact ⟨m + 1,by omega,by omega,by go_num,hall'.out⟩
         case measure=>simp [intOf];omega
        ·have HSK:Hid (_ ∧ _):=HSK.out m hm1 (by omega) hall (fun _=>hz32)
         have HSM:Hid ((b.getD m 0).toNat = 10 → skipB b m (outK b k)):=fun h=>.inr (.inl h)
         obtain ⟨z,hz⟩:∃ z:Nat,z = (b.getD m 0).toNat:=⟨_,rfl⟩
         rw [← hz] at hcm hz32 HSM
         have HZ:Hid (z = (b.getD m 0).toNat):=hz
         have b32:((z:Int) == 32) = false:=by simp;omega
         have bmn:((m:Int) == (s.size:Int)) = false:=by simp;omega
         clear hz hall HC
         by_cases h10:z = 10
         ·have hSk:=HSM.out h10
          subst h10
          clear HSM hco HZ
          have R1:=HSK.out.1 (hSk)
          clear HSK
          go_wp2
          go_roundw
          case rel=>exact ⟨k + 1,by omega,by go_num,by rw [R1];exact hown,hbo⟩
          case measure=>simp [intOf];omega
         ·have b10:((z:Int) == 10) = false:=by simp;omega
          obtain ⟨q,hq⟩:∃ q:Nat,q = (outK b k).length:=⟨_,rfl⟩
          obtain ⟨y,hy⟩:∃ y:Nat,y = lastU (outK b k):=⟨_,rfl⟩
          have hlast:0 < q → ∃ g,ao = some ⟨g,0,none⟩ ∧ wr.cell? ⟨g,q - 1,none⟩ = some (.int .u8 (y:Int)):=fun h=>by
           obtain ⟨g,hg,_,_,hcell⟩:=hco (by omega)
           refine ⟨g,hg,hcell _ _ ?_⟩
           rw [hy,hq]
           simp only [lastU,List.getD_eq_getElem?_getD]
           rw [List.getElem?_map,List.getElem?_eq_getElem (by omega)]
           rfl
          have HSN:Hid (¬ (q = 0 ∨ y = 32 ∨ y = 10) → ¬ skipB b m (outK b k)):=fun h g=>by
           rcases g with g | g | g | g | g
           ·have:=HB.out;omega
           ·exact h10 (HZ.out.trans g)
           ·exact h (.inl (hq.trans g))
           ·exact h (.inr (.inl (hy.trans g)))
           ·exact h (.inr (.inr (hy.trans g)))
          have HSY:Hid ((q = 0 ∨ y = 32 ∨ y = 10) → skipB b m (outK b k)):=fun h=>by
           rcases h with g | g | g
           ·exact .inr (.inr (.inl (hq.symm.trans g)))
           ·exact .inr (.inr (.inr (.inl (hy.symm.trans g))))
           ·exact .inr (.inr (.inr (.inr (hy.symm.trans g))))
          rw [← hq] at hle
          have HQ:Hid (q = (outK b k).length):=hq
          have hown':wr.ownsRow wa.heap.size 5 1 (.slice ao q co) q ((outK b k).map encU):=by rw [HQ.out];exact hown
          have hgo:Value.slice ao (outK b k).length co = .slice ao q co:=by rw [HQ.out]
          have HG:Hid (wr.ownsRow wa.heap.size 5 1 (.slice ao q co) (outK b k).length ((outK b k).map encU)):=by rw [HQ.out];exact hown
          rw [hgo]
          clear hq hy hco HZ HSM hown hgo
          have hown:=hown'
          clear hown'
          by_cases hq0:q = 0
          ·have hSk:=HSY.out (.inl hq0)
           subst hq0
           clear HSY HSN hlast
           have R1:=HSK.out.1 (hSk)
           clear HSK
           go_wp2
           go_roundw
           case rel=>exact ⟨k + 1,by omega,by go_num,by rw [R1];exact HG.out,hbo⟩
           case measure=>simp [intOf];omega
          ·obtain ⟨g,rfl,hcl⟩:=hlast (by omega)
           have hq1:(0:Int) < (q:Int):=by omega
           have hq2:(0:Int) ≤ (q:Int) - 1:=by omega
           have bq0:((q:Int) == 0) = false:=by simp;omega
           clear hlast
           by_cases hy32:y = 32
           ·have hSk:=HSY.out (.inr (.inl hy32))
            subst hy32
            clear HSY HSN
            have R1:=HSK.out.1 (hSk)
            clear HSK
            go_wp2
            go_roundw
            case rel=>exact ⟨k + 1,by omega,by go_num,by rw [R1];exact HG.out,hbo⟩
            case measure=>simp [intOf];omega
           ·have by32:((y:Int) == 32) = false:=by simp;omega
            by_cases hy10:y = 10
            ·have hSk:=HSY.out (.inr (.inr hy10))
             subst hy10
             clear HSY HSN
             have R1:=HSK.out.1 (hSk)
             clear HSK
             go_wp2
             go_roundw
             case rel=>exact ⟨k + 1,by omega,by go_num,by rw [R1];exact HG.out,hbo⟩
             case measure=>simp [intOf];omega
            ·have by10:((y:Int) == 10) = false:=by simp;omega
             have HN2:Hid (outK b (k + 1) = outK b k ++ [32]):=HSK.out.2 (HSN.out (by omega))
             clear HSY HSN HSK
             go_wp2_with (at_builtin;refine wpList_append_own _ rfl (.tmp 104) (.tmp 105) 22 rfl wa.heap.size 5 i0 (.int .u8 0) 1 1 Tryz.underlying22 hi hz0 hz1 hz2 rfl (by decide) _ _ _ rfl (hown.alloc _) ⟨wr.heap.size,0,none⟩ 1 1 [.int .u8 32] rfl rfl (cell_one_new _ _ _) (one_u8 32) (by unfold maxLen;omega) (by omega) (by have:=hbo.size;simp;omega) ?_)
             intro v' w2 hown2 hgrow2 _
             have R1:=own_next (c:=32) (K:=outK b k) (L:=outK b (k + 1)) (HN2.out) (rfl) (by rw [← HQ.out];exact hown2)
             have R2:Below wa.heap.size wa w2:=(hbo.alloc hbo.size _).grown hgrow2 (by have:=hbo.size;simp;omega) (fun j hj=>own_lo hown j hj)
             clear hown2 hgrow2 hown hbo
             go_wp2
             go_roundw
             case rel=>exact ⟨k + 1,by omega,by go_num,R1,R2⟩
             case measure=>simp [intOf];omega
    ·have e:k = s.size:=by omega
     subst e
     have kc:=own_back rfl hown
     rw [HK2.out] at kc
     go_wp2
     go_ret
     exact ⟨rfl,hbw.trans (hbo.mono hbw.size)⟩
end Go.Proofs.YtjnmloaopnbpgaaGreatDoor
