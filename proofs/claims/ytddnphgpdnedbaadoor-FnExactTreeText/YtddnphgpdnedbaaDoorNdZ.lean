/-
  A node is a text if its style is the zero one: both sides' tests.
-/
import Derived.Test.YtddnphgpdnedbaaDoorNdE
import Derived.Laws.StructEq
namespace Go.Proofs.YtddnphgpdnedbaaDoor
open Go.ChangeShapes Go.WideShapes Go.ChangeAt Go.RowKit
set_option linter.unusedVariables false
set_option linter.unusedSimpArgs false

theorem eqSt_held : Tryd.prog.stoodInHeld 40 = false := by kernel_rfl
theorem eqSt_guard : Tryd.prog.eqGuardType Tryd.prog.depth 40 = false := by kernel_rfl
theorem eqSt_fields : Tryd.prog.underlying 40 = some (.struct (Tryd.prog.fieldsOf 40)) := by kernel_rfl
theorem eqSzz_held : Tryd.prog.stoodInHeld 38 = false := by kernel_rfl
theorem eqSzz_fields : Tryd.prog.underlying 38 = some (.struct (Tryd.prog.fieldsOf 38)) := by kernel_rfl
theorem eqSzF (d : Nat) (a p : Bool) (n : Int) (w : World) :
    (Op.equalIn (d + 1 + 1) 38 (.agg #[.bool a, .bool p, .int .i64 n]) (.agg #[.bool false, .bool false, .int .i64 0])).run Tryd.prog w = .ok (szZ a p n) w := by
  rw [run_equalIn_agg _ _ _ _ _ eqSzz_fields eqSzz_held]
  simp only [Program.fieldsOf, Tryd.underlying38]
  cases a <;> cases p <;> by_cases h3 : n = 0 <;> simp [Op.eqFields, go_sem, Tryd.underlying3, Tryd.underlying4, h3, szZ]
theorem eqF_step {P : Program} {w : World} {d : Nat} {xs ys : Array Value} {f : Field} {fs : List Field} {a b : Value} {r : Bool} (hn : (f.name == "_") = false)
    (h1 : (part f.type xs f.offset).run P w = .ok a w) (h2 : (part f.type ys f.offset).run P w = .ok b w) (h3 : (Op.equalIn d f.type a b).run P w = .ok r w) :
    (Op.eqFields d xs ys (f :: fs)).run P w = if r = true then (Op.eqFields d xs ys fs).run P w else .ok false w := by
  have hn' : f.name ≠ "_" := by simpa using hn
  cases r <;> simp [Op.eqFields, hn', h1, h2, h3]

set_option maxRecDepth 100000 in
set_option maxHeartbeats 4000000 in
theorem eqSt_run (s : St) (w : World) :
    (binOp .eql 40 (.agg #[.int .i64 s.sh, .int .i64 s.fl, .int .i64 s.cl, .bool s.w.a, .bool s.w.p, .int .i64 s.w.n, .bool s.h.a, .bool s.h.p, .int .i64 s.h.n, .int .i64 s.mn, .int .i64 s.mx, .int .i64 s.mt, .bool s.mr.a, .bool s.mr.p, .int .i64 s.mr.n, .int .i64 s.mb, .bool s.ml.a, .bool s.ml.p, .int .i64 s.ml.n, .int .i64 s.bo, .int .i64 s.pa, .int .i64 s.wh, .int .i64 s.al, .int .i64 s.lh, .int .i64 s.ri, .int .i64 s.dn]) (.agg #[.int .i64 0, .int .i64 0, .int .i64 0, .bool false, .bool false, .int .i64 0, .bool false, .bool false, .int .i64 0, .int .i64 0, .int .i64 0, .int .i64 0, .bool false, .bool false, .int .i64 0, .int .i64 0, .bool false, .bool false, .int .i64 0, .int .i64 0, .int .i64 0, .int .i64 0, .int .i64 0, .int .i64 0, .int .i64 0, .int .i64 0])).run Tryd.prog w = .ok (.bool (zeroS s)) w := by
  rw [run_eql_struct, run_equalIn_agg _ _ _ _ _ eqSt_fields eqSt_held]
  simp only [Program.fieldsOf, Tryd.underlying40]
  by_cases h_sh : s.sh = 0
  rotate_left
  · simp [Op.eqFields, go_sem, Tryd.underlying3, Tryd.underlying4, eqSzF, zeroS, h_sh]
  by_cases h_fl : s.fl = 0
  rotate_left
  · simp [Op.eqFields, go_sem, Tryd.underlying3, Tryd.underlying4, eqSzF, zeroS, h_sh, h_fl]
  by_cases h_cl : s.cl = 0
  rotate_left
  · simp [Op.eqFields, go_sem, Tryd.underlying3, Tryd.underlying4, eqSzF, zeroS, h_sh, h_fl, h_cl]
  by_cases h_w : szZ s.w.a s.w.p s.w.n = true
  rotate_left
  · simp [Op.eqFields, go_sem, Tryd.underlying3, Tryd.underlying4, eqSzF, zeroS, h_sh, h_fl, h_cl, h_w]
  by_cases h_h : szZ s.h.a s.h.p s.h.n = true
  rotate_left
  · simp [Op.eqFields, go_sem, Tryd.underlying3, Tryd.underlying4, eqSzF, zeroS, h_sh, h_fl, h_cl, h_w, h_h]
  by_cases h_mn : s.mn = 0
  rotate_left
  · simp [Op.eqFields, go_sem, Tryd.underlying3, Tryd.underlying4, eqSzF, zeroS, h_sh, h_fl, h_cl, h_w, h_h, h_mn]
  by_cases h_mx : s.mx = 0
  rotate_left
  · simp [Op.eqFields, go_sem, Tryd.underlying3, Tryd.underlying4, eqSzF, zeroS, h_sh, h_fl, h_cl, h_w, h_h, h_mn, h_mx]
  by_cases h_mt : s.mt = 0
  rotate_left
  · simp [Op.eqFields, go_sem, Tryd.underlying3, Tryd.underlying4, eqSzF, zeroS, h_sh, h_fl, h_cl, h_w, h_h, h_mn, h_mx, h_mt]
  by_cases h_mr : szZ s.mr.a s.mr.p s.mr.n = true
  rotate_left
  · simp [Op.eqFields, go_sem, Tryd.underlying3, Tryd.underlying4, eqSzF, zeroS, h_sh, h_fl, h_cl, h_w, h_h, h_mn, h_mx, h_mt, h_mr]
  by_cases h_mb : s.mb = 0
  rotate_left
  · simp [Op.eqFields, go_sem, Tryd.underlying3, Tryd.underlying4, eqSzF, zeroS, h_sh, h_fl, h_cl, h_w, h_h, h_mn, h_mx, h_mt, h_mr, h_mb]
  by_cases h_ml : szZ s.ml.a s.ml.p s.ml.n = true
  rotate_left
  · simp [Op.eqFields, go_sem, Tryd.underlying3, Tryd.underlying4, eqSzF, zeroS, h_sh, h_fl, h_cl, h_w, h_h, h_mn, h_mx, h_mt, h_mr, h_mb, h_ml]
  by_cases h_bo : s.bo = 0
  rotate_left
  · simp [Op.eqFields, go_sem, Tryd.underlying3, Tryd.underlying4, eqSzF, zeroS, h_sh, h_fl, h_cl, h_w, h_h, h_mn, h_mx, h_mt, h_mr, h_mb, h_ml, h_bo]
  by_cases h_pa : s.pa = 0
  rotate_left
  · simp [Op.eqFields, go_sem, Tryd.underlying3, Tryd.underlying4, eqSzF, zeroS, h_sh, h_fl, h_cl, h_w, h_h, h_mn, h_mx, h_mt, h_mr, h_mb, h_ml, h_bo, h_pa]
  by_cases h_wh : s.wh = 0
  rotate_left
  · simp [Op.eqFields, go_sem, Tryd.underlying3, Tryd.underlying4, eqSzF, zeroS, h_sh, h_fl, h_cl, h_w, h_h, h_mn, h_mx, h_mt, h_mr, h_mb, h_ml, h_bo, h_pa, h_wh]
  by_cases h_al : s.al = 0
  rotate_left
  · simp [Op.eqFields, go_sem, Tryd.underlying3, Tryd.underlying4, eqSzF, zeroS, h_sh, h_fl, h_cl, h_w, h_h, h_mn, h_mx, h_mt, h_mr, h_mb, h_ml, h_bo, h_pa, h_wh, h_al]
  by_cases h_lh : s.lh = 0
  rotate_left
  · simp [Op.eqFields, go_sem, Tryd.underlying3, Tryd.underlying4, eqSzF, zeroS, h_sh, h_fl, h_cl, h_w, h_h, h_mn, h_mx, h_mt, h_mr, h_mb, h_ml, h_bo, h_pa, h_wh, h_al, h_lh]
  by_cases h_ri : s.ri = 0
  rotate_left
  · simp [Op.eqFields, go_sem, Tryd.underlying3, Tryd.underlying4, eqSzF, zeroS, h_sh, h_fl, h_cl, h_w, h_h, h_mn, h_mx, h_mt, h_mr, h_mb, h_ml, h_bo, h_pa, h_wh, h_al, h_lh, h_ri]
  by_cases h_dn : s.dn = 0
  rotate_left
  · simp [Op.eqFields, go_sem, Tryd.underlying3, Tryd.underlying4, eqSzF, zeroS, h_sh, h_fl, h_cl, h_w, h_h, h_mn, h_mx, h_mt, h_mr, h_mb, h_ml, h_bo, h_pa, h_wh, h_al, h_lh, h_ri, h_dn]
  simp [Op.eqFields, go_sem, Tryd.underlying3, Tryd.underlying4, eqSzF, zeroS, h_sh, h_fl, h_cl, h_w, h_h, h_mn, h_mx, h_mt, h_mr, h_mb, h_ml, h_bo, h_pa, h_wh, h_al, h_lh, h_ri, h_dn]

set_option maxRecDepth 100000 in
set_option maxHeartbeats 4000000 in
theorem specIsText_any (n : Nd) (w : World) : Calls Tryd.prog 12 #[.agg #[.int .i64 n.up, .string n.tx, .int .i64 n.st.sh, .int .i64 n.st.fl, .int .i64 n.st.cl, .bool n.st.w.a, .bool n.st.w.p, .int .i64 n.st.w.n, .bool n.st.h.a, .bool n.st.h.p, .int .i64 n.st.h.n, .int .i64 n.st.mn, .int .i64 n.st.mx, .int .i64 n.st.mt, .bool n.st.mr.a, .bool n.st.mr.p, .int .i64 n.st.mr.n, .int .i64 n.st.mb, .bool n.st.ml.a, .bool n.st.ml.p, .int .i64 n.st.ml.n, .int .i64 n.st.bo, .int .i64 n.st.pa, .int .i64 n.st.wh, .int .i64 n.st.al, .int .i64 n.st.lh, .int .i64 n.st.ri, .int .i64 n.st.dn]] w fun e w' => e = .returned (.bool (zeroS n.st)) ∧ Below w.heap.size w w' := by
  have EQ := eqSt_run n.st
  have GD := fun (w : World) (x y : Operand) => run_eqGuard_agg (P := Tryd.prog) w .eql 40 x y (#[.int .i64 n.st.sh, .int .i64 n.st.fl, .int .i64 n.st.cl, .bool n.st.w.a, .bool n.st.w.p, .int .i64 n.st.w.n, .bool n.st.h.a, .bool n.st.h.p, .int .i64 n.st.h.n, .int .i64 n.st.mn, .int .i64 n.st.mx, .int .i64 n.st.mt, .bool n.st.mr.a, .bool n.st.mr.p, .int .i64 n.st.mr.n, .int .i64 n.st.mb, .bool n.st.ml.a, .bool n.st.ml.p, .int .i64 n.st.ml.n, .int .i64 n.st.bo, .int .i64 n.st.pa, .int .i64 n.st.wh, .int .i64 n.st.al, .int .i64 n.st.lh, .int .i64 n.st.ri, .int .i64 n.st.dn]) (#[.int .i64 0, .int .i64 0, .int .i64 0, .bool false, .bool false, .int .i64 0, .bool false, .bool false, .int .i64 0, .int .i64 0, .int .i64 0, .int .i64 0, .bool false, .bool false, .int .i64 0, .int .i64 0, .bool false, .bool false, .int .i64 0, .int .i64 0, .int .i64 0, .int .i64 0, .int .i64 0, .int .i64 0, .int .i64 0, .int .i64 0]) eqSt_guard
  generalize zeroS n.st = r at EQ ⊢
  go_enter Tryd.func12, Tryd.ntmps12
  iterate 12 go_step
  refine wp_gen1 ?_
  intro W bel l0 hz
  have R0 : W.rangeAt w.heap.size 2 (#[.int .i64 n.st.sh, .int .i64 n.st.fl, .int .i64 n.st.cl, .bool n.st.w.a, .bool n.st.w.p, .int .i64 n.st.w.n, .bool n.st.h.a, .bool n.st.h.p, .int .i64 n.st.h.n, .int .i64 n.st.mn, .int .i64 n.st.mx, .int .i64 n.st.mt, .bool n.st.mr.a, .bool n.st.mr.p, .int .i64 n.st.mr.n, .int .i64 n.st.mb, .bool n.st.ml.a, .bool n.st.ml.p, .int .i64 n.st.ml.n, .int .i64 n.st.bo, .int .i64 n.st.pa, .int .i64 n.st.wh, .int .i64 n.st.al, .int .i64 n.st.lh, .int .i64 n.st.ri, .int .i64 n.st.dn] : Array Value).toList := fun j v hj => (lies_cell l0 (2 + j)).trans (by rw [← hj, show (#[.int .i64 n.st.sh, .int .i64 n.st.fl, .int .i64 n.st.cl, .bool n.st.w.a, .bool n.st.w.p, .int .i64 n.st.w.n, .bool n.st.h.a, .bool n.st.h.p, .int .i64 n.st.h.n, .int .i64 n.st.mn, .int .i64 n.st.mx, .int .i64 n.st.mt, .bool n.st.mr.a, .bool n.st.mr.p, .int .i64 n.st.mr.n, .int .i64 n.st.mb, .bool n.st.ml.a, .bool n.st.ml.p, .int .i64 n.st.ml.n, .int .i64 n.st.bo, .int .i64 n.st.pa, .int .i64 n.st.wh, .int .i64 n.st.al, .int .i64 n.st.lh, .int .i64 n.st.ri, .int .i64 n.st.dn] : Array Value).toList = (#[.int .i64 n.up, .string n.tx, .int .i64 n.st.sh, .int .i64 n.st.fl, .int .i64 n.st.cl, .bool n.st.w.a, .bool n.st.w.p, .int .i64 n.st.w.n, .bool n.st.h.a, .bool n.st.h.p, .int .i64 n.st.h.n, .int .i64 n.st.mn, .int .i64 n.st.mx, .int .i64 n.st.mt, .bool n.st.mr.a, .bool n.st.mr.p, .int .i64 n.st.mr.n, .int .i64 n.st.mb, .bool n.st.ml.a, .bool n.st.ml.p, .int .i64 n.st.ml.n, .int .i64 n.st.bo, .int .i64 n.st.pa, .int .i64 n.st.wh, .int .i64 n.st.al, .int .i64 n.st.lh, .int .i64 n.st.ri, .int .i64 n.st.dn] : Array Value).toList.drop 2 from rfl, List.getElem?_drop]; simp)
  clear l0
  go_wp2_with (first
    | (with_reducible show wpList _ _ _ (⟨some 4, Op.load 40 _, _, _, _, _⟩ :: _) _ _; refine wpList_load_mid rfl 40 _ rfl w.heap.size 2 rfl (#[.int .i64 n.st.sh, .int .i64 n.st.fl, .int .i64 n.st.cl, .bool n.st.w.a, .bool n.st.w.p, .int .i64 n.st.w.n, .bool n.st.h.a, .bool n.st.h.p, .int .i64 n.st.h.n, .int .i64 n.st.mn, .int .i64 n.st.mx, .int .i64 n.st.mt, .bool n.st.mr.a, .bool n.st.mr.p, .int .i64 n.st.mr.n, .int .i64 n.st.mb, .bool n.st.ml.a, .bool n.st.ml.p, .int .i64 n.st.ml.n, .int .i64 n.st.bo, .int .i64 n.st.pa, .int .i64 n.st.wh, .int .i64 n.st.al, .int .i64 n.st.lh, .int .i64 n.st.ri, .int .i64 n.st.dn] : Array Value).toList _ R0 Tryd.underlying40 rfl (by kernel_rfl) ?_)
    | (with_reducible show wpList _ _ _ (⟨some 5, Op.build 40 _, _, _, _, _⟩ :: _) _ _; refine wpList_buildTo rfl 40 _ rfl _ rfl (#[.int .i64 0, .int .i64 0, .int .i64 0, .bool false, .bool false, .int .i64 0, .bool false, .bool false, .int .i64 0, .int .i64 0, .int .i64 0, .int .i64 0, .bool false, .bool false, .int .i64 0, .int .i64 0, .bool false, .bool false, .int .i64 0, .int .i64 0, .int .i64 0, .int .i64 0, .int .i64 0, .int .i64 0, .int .i64 0, .int .i64 0]) (by kernel_rfl) ?_))
  go_ret
  exact ⟨rfl, bel⟩
set_option maxRecDepth 100000 in
set_option maxHeartbeats 4000000 in
theorem implIsText_any (n : Nd) (w : World) : Calls Tryd.prog 30 #[.agg #[.int .i64 n.up, .string n.tx, .int .i64 n.st.sh, .int .i64 n.st.fl, .int .i64 n.st.cl, .bool n.st.w.a, .bool n.st.w.p, .int .i64 n.st.w.n, .bool n.st.h.a, .bool n.st.h.p, .int .i64 n.st.h.n, .int .i64 n.st.mn, .int .i64 n.st.mx, .int .i64 n.st.mt, .bool n.st.mr.a, .bool n.st.mr.p, .int .i64 n.st.mr.n, .int .i64 n.st.mb, .bool n.st.ml.a, .bool n.st.ml.p, .int .i64 n.st.ml.n, .int .i64 n.st.bo, .int .i64 n.st.pa, .int .i64 n.st.wh, .int .i64 n.st.al, .int .i64 n.st.lh, .int .i64 n.st.ri, .int .i64 n.st.dn]] w fun e w' => e = .returned (.bool (zeroS n.st)) ∧ Below w.heap.size w w' := by
  have EQ := eqSt_run n.st
  have GD := fun (w : World) (x y : Operand) => run_eqGuard_agg (P := Tryd.prog) w .eql 40 x y (#[.int .i64 n.st.sh, .int .i64 n.st.fl, .int .i64 n.st.cl, .bool n.st.w.a, .bool n.st.w.p, .int .i64 n.st.w.n, .bool n.st.h.a, .bool n.st.h.p, .int .i64 n.st.h.n, .int .i64 n.st.mn, .int .i64 n.st.mx, .int .i64 n.st.mt, .bool n.st.mr.a, .bool n.st.mr.p, .int .i64 n.st.mr.n, .int .i64 n.st.mb, .bool n.st.ml.a, .bool n.st.ml.p, .int .i64 n.st.ml.n, .int .i64 n.st.bo, .int .i64 n.st.pa, .int .i64 n.st.wh, .int .i64 n.st.al, .int .i64 n.st.lh, .int .i64 n.st.ri, .int .i64 n.st.dn]) (#[.int .i64 0, .int .i64 0, .int .i64 0, .bool false, .bool false, .int .i64 0, .bool false, .bool false, .int .i64 0, .int .i64 0, .int .i64 0, .int .i64 0, .bool false, .bool false, .int .i64 0, .int .i64 0, .bool false, .bool false, .int .i64 0, .int .i64 0, .int .i64 0, .int .i64 0, .int .i64 0, .int .i64 0, .int .i64 0, .int .i64 0]) eqSt_guard
  generalize zeroS n.st = r at EQ ⊢
  go_enter Tryd.func30, Tryd.ntmps30
  iterate 12 go_step
  refine wp_gen1 ?_
  intro W bel l0 hz
  have R0 : W.rangeAt w.heap.size 2 (#[.int .i64 n.st.sh, .int .i64 n.st.fl, .int .i64 n.st.cl, .bool n.st.w.a, .bool n.st.w.p, .int .i64 n.st.w.n, .bool n.st.h.a, .bool n.st.h.p, .int .i64 n.st.h.n, .int .i64 n.st.mn, .int .i64 n.st.mx, .int .i64 n.st.mt, .bool n.st.mr.a, .bool n.st.mr.p, .int .i64 n.st.mr.n, .int .i64 n.st.mb, .bool n.st.ml.a, .bool n.st.ml.p, .int .i64 n.st.ml.n, .int .i64 n.st.bo, .int .i64 n.st.pa, .int .i64 n.st.wh, .int .i64 n.st.al, .int .i64 n.st.lh, .int .i64 n.st.ri, .int .i64 n.st.dn] : Array Value).toList := fun j v hj => (lies_cell l0 (2 + j)).trans (by rw [← hj, show (#[.int .i64 n.st.sh, .int .i64 n.st.fl, .int .i64 n.st.cl, .bool n.st.w.a, .bool n.st.w.p, .int .i64 n.st.w.n, .bool n.st.h.a, .bool n.st.h.p, .int .i64 n.st.h.n, .int .i64 n.st.mn, .int .i64 n.st.mx, .int .i64 n.st.mt, .bool n.st.mr.a, .bool n.st.mr.p, .int .i64 n.st.mr.n, .int .i64 n.st.mb, .bool n.st.ml.a, .bool n.st.ml.p, .int .i64 n.st.ml.n, .int .i64 n.st.bo, .int .i64 n.st.pa, .int .i64 n.st.wh, .int .i64 n.st.al, .int .i64 n.st.lh, .int .i64 n.st.ri, .int .i64 n.st.dn] : Array Value).toList = (#[.int .i64 n.up, .string n.tx, .int .i64 n.st.sh, .int .i64 n.st.fl, .int .i64 n.st.cl, .bool n.st.w.a, .bool n.st.w.p, .int .i64 n.st.w.n, .bool n.st.h.a, .bool n.st.h.p, .int .i64 n.st.h.n, .int .i64 n.st.mn, .int .i64 n.st.mx, .int .i64 n.st.mt, .bool n.st.mr.a, .bool n.st.mr.p, .int .i64 n.st.mr.n, .int .i64 n.st.mb, .bool n.st.ml.a, .bool n.st.ml.p, .int .i64 n.st.ml.n, .int .i64 n.st.bo, .int .i64 n.st.pa, .int .i64 n.st.wh, .int .i64 n.st.al, .int .i64 n.st.lh, .int .i64 n.st.ri, .int .i64 n.st.dn] : Array Value).toList.drop 2 from rfl, List.getElem?_drop]; simp)
  clear l0
  go_wp2_with (first
    | (with_reducible show wpList _ _ _ (⟨some 4, Op.load 40 _, _, _, _, _⟩ :: _) _ _; refine wpList_load_mid rfl 40 _ rfl w.heap.size 2 rfl (#[.int .i64 n.st.sh, .int .i64 n.st.fl, .int .i64 n.st.cl, .bool n.st.w.a, .bool n.st.w.p, .int .i64 n.st.w.n, .bool n.st.h.a, .bool n.st.h.p, .int .i64 n.st.h.n, .int .i64 n.st.mn, .int .i64 n.st.mx, .int .i64 n.st.mt, .bool n.st.mr.a, .bool n.st.mr.p, .int .i64 n.st.mr.n, .int .i64 n.st.mb, .bool n.st.ml.a, .bool n.st.ml.p, .int .i64 n.st.ml.n, .int .i64 n.st.bo, .int .i64 n.st.pa, .int .i64 n.st.wh, .int .i64 n.st.al, .int .i64 n.st.lh, .int .i64 n.st.ri, .int .i64 n.st.dn] : Array Value).toList _ R0 Tryd.underlying40 rfl (by kernel_rfl) ?_)
    | (with_reducible show wpList _ _ _ (⟨some 5, Op.build 40 _, _, _, _, _⟩ :: _) _ _; refine wpList_buildTo rfl 40 _ rfl _ rfl (#[.int .i64 0, .int .i64 0, .int .i64 0, .bool false, .bool false, .int .i64 0, .bool false, .bool false, .int .i64 0, .int .i64 0, .int .i64 0, .int .i64 0, .bool false, .bool false, .int .i64 0, .int .i64 0, .bool false, .bool false, .int .i64 0, .int .i64 0, .int .i64 0, .int .i64 0, .int .i64 0, .int .i64 0, .int .i64 0, .int .i64 0]) (by kernel_rfl) ?_))
  go_ret
  exact ⟨rfl, bel⟩
end Go.Proofs.YtddnphgpdnedbaaDoor
