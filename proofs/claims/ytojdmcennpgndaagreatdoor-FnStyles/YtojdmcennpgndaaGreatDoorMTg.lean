/-
  The program's StyleText, for every style.
  The model's l4Get: what a style has by a name, for each of the eighteen names.
  The model's list of names and its lists of words.
  What the model has of a style by a name, for all eighteen names at once.
-/
import Derived.Test.YtojdmcennpgndaaGreatDoorTellS
import Derived.Test.YtojdmcennpgndaaGreatDoorStyB
import Derived.RegionTactic
import Derived.Deep.RegionWith
import Derived.Deep.DeepFit
import Derived.Deep.RegionHeld3
import Derived.Great.Walk
namespace Go.Proofs.YtojdmcennpgndaaGreatDoor
open Go.ChangeShapes Go.WideShapes Go.ChangeAt Go.RowKit
set_option linter.unusedVariables false

def txtB (s : St) : Bool := styleB s && okTo s 18
def txtT (s : St) : ByteArray := if txtB s then textTo s 18 else ⟨#[]⟩
set_option maxRecDepth 100000 in
set_option maxHeartbeats 2000000 in
theorem implStyleText_any (s : St) (w : World) (E : Env w) :
    Calls Tryz.prog 5 #[.agg #[.int .i64 s.sh, .int .i64 s.fl, .int .i64 s.cl, .bool s.w.a, .bool s.w.p, .int .i64 s.w.n, .bool s.h.a, .bool s.h.p, .int .i64 s.h.n, .int .i64 s.mn, .int .i64 s.mx, .int .i64 s.mt, .bool s.mr.a, .bool s.mr.p, .int .i64 s.mr.n, .int .i64 s.mb, .bool s.ml.a, .bool s.ml.p, .int .i64 s.ml.n, .int .i64 s.bo, .int .i64 s.pa, .int .i64 s.wh, .int .i64 s.al, .int .i64 s.lh, .int .i64 s.ri, .int .i64 s.dn]] w fun e w' => e = .returned (.tuple #[.string (txtT s), .bool (txtB s)]) ∧ Below w.heap.size w w' := by
  have bel0 : Below w.heap.size w (w.alloc (.cells (#[.int .i64 s.sh, .int .i64 s.fl, .int .i64 s.cl, .bool s.w.a, .bool s.w.p, .int .i64 s.w.n, .bool s.h.a, .bool s.h.p, .int .i64 s.h.n, .int .i64 s.mn, .int .i64 s.mx, .int .i64 s.mt, .bool s.mr.a, .bool s.mr.p, .int .i64 s.mr.n, .int .i64 s.mb, .bool s.ml.a, .bool s.ml.p, .int .i64 s.ml.n, .int .i64 s.bo, .int .i64 s.pa, .int .i64 s.wh, .int .i64 s.al, .int .i64 s.lh, .int .i64 s.ri, .int .i64 s.dn]) 26)) := (Below.refl _ _).alloc (Nat.le_refl _) _
  have TS := tellStyle_any s (w.alloc (.cells (#[.int .i64 s.sh, .int .i64 s.fl, .int .i64 s.cl, .bool s.w.a, .bool s.w.p, .int .i64 s.w.n, .bool s.h.a, .bool s.h.p, .int .i64 s.h.n, .int .i64 s.mn, .int .i64 s.mx, .int .i64 s.mt, .bool s.mr.a, .bool s.mr.p, .int .i64 s.mr.n, .int .i64 s.mb, .bool s.ml.a, .bool s.ml.p, .int .i64 s.ml.n, .int .i64 s.bo, .int .i64 s.pa, .int .i64 s.wh, .int .i64 s.al, .int .i64 s.lh, .int .i64 s.ri, .int .i64 s.dn]) 26)) (E.below bel0 (Nat.le_refl _))
  have l0 : (w.alloc (.cells (#[.int .i64 s.sh, .int .i64 s.fl, .int .i64 s.cl, .bool s.w.a, .bool s.w.p, .int .i64 s.w.n, .bool s.h.a, .bool s.h.p, .int .i64 s.h.n, .int .i64 s.mn, .int .i64 s.mx, .int .i64 s.mt, .bool s.mr.a, .bool s.mr.p, .int .i64 s.mr.n, .int .i64 s.mb, .bool s.ml.a, .bool s.ml.p, .int .i64 s.ml.n, .int .i64 s.bo, .int .i64 s.pa, .int .i64 s.wh, .int .i64 s.al, .int .i64 s.lh, .int .i64 s.ri, .int .i64 s.dn]) 26)).heap[w.heap.size]? = some (.cells (#[.int .i64 s.sh, .int .i64 s.fl, .int .i64 s.cl, .bool s.w.a, .bool s.w.p, .int .i64 s.w.n, .bool s.h.a, .bool s.h.p, .int .i64 s.h.n, .int .i64 s.mn, .int .i64 s.mx, .int .i64 s.mt, .bool s.mr.a, .bool s.mr.p, .int .i64 s.mr.n, .int .i64 s.mb, .bool s.ml.a, .bool s.ml.p, .int .i64 s.ml.n, .int .i64 s.bo, .int .i64 s.pa, .int .i64 s.wh, .int .i64 s.al, .int .i64 s.lh, .int .i64 s.ri, .int .i64 s.dn]) 26 (0, 0)) := heap_at _ _ _ rfl
  have e1 : (styleB s && okTo s 18) = txtB s := rfl
  rw [e1] at TS
  have e2 : txtT s = if txtB s then textTo s 18 else ⟨#[]⟩ := rfl
  rw [e2]
  generalize textTo s 18 = t at TS ⊢
  generalize txtB s = b at TS ⊢
  clear E e1 e2
  go_enter Tryz.func5, Tryz.ntmps5
  go_wp2_with (first
    | ((with_reducible show wpList _ _ _ (⟨some 7, Op.load 26 _, _, _, _, _⟩ :: _) _ _); refine wpList_load_row rfl 26 _ rfl w.heap.size rfl _ (#[.int .i64 s.sh, .int .i64 s.fl, .int .i64 s.cl, .bool s.w.a, .bool s.w.p, .int .i64 s.w.n, .bool s.h.a, .bool s.h.p, .int .i64 s.h.n, .int .i64 s.mn, .int .i64 s.mx, .int .i64 s.mt, .bool s.mr.a, .bool s.mr.p, .int .i64 s.mr.n, .int .i64 s.mb, .bool s.ml.a, .bool s.ml.p, .int .i64 s.ml.n, .int .i64 s.bo, .int .i64 s.pa, .int .i64 s.wh, .int .i64 s.al, .int .i64 s.lh, .int .i64 s.ri, .int .i64 s.dn]) _ _ l0 Tryz.underlying26 rfl (by kernel_rfl) ?_)
    | (go_at_call 12; refine TS.mono ?_; rintro e w1 ⟨he, hb⟩; rcases he with ⟨rfl, rfl⟩ | ⟨rfl, x, v, rfl⟩))
  all_goals
    go_ret2
    exact ⟨rfl, bel0.trans (hb.mono (by simp))⟩
end Go.Proofs.YtojdmcennpgndaaGreatDoor

namespace Go.Proofs.YtojdmcennpgndaaGreatDoor
open Go.ChangeShapes Go.WideShapes Go.ChangeAt Go.RowKit
set_option linter.unusedVariables false

theorem l4Len_at (n : Int) (w : World) : Calls Tryz.prog 32 #[.int .i64 n] w fun e w' => e = .returned (.agg #[.bool false, .bool false, .int .i64 n]) ∧ w' = w.alloc (.cells #[.bool false, .bool false, .int .i64 n] 24) := by
  go_enter Tryz.func32, Tryz.ntmps32
  go_wp2
  exact bodyPost_ret (v := .agg #[.bool false, .bool false, .int .i64 n]) (by simp [results, Tryz.results32, go_sem]) rfl ⟨rfl, rfl⟩
set_option maxHeartbeats 4000000 in
theorem l4Get_0 (s : St) (w : World) :
    Calls Tryz.prog 15 #[.agg #[.int .i64 s.sh, .int .i64 s.fl, .int .i64 s.cl, .bool s.w.a, .bool s.w.p, .int .i64 s.w.n, .bool s.h.a, .bool s.h.p, .int .i64 s.h.n, .int .i64 s.mn, .int .i64 s.mx, .int .i64 s.mt, .bool s.mr.a, .bool s.mr.p, .int .i64 s.mr.n, .int .i64 s.mb, .bool s.ml.a, .bool s.ml.p, .int .i64 s.ml.n, .int .i64 s.bo, .int .i64 s.pa, .int .i64 s.wh, .int .i64 s.al, .int .i64 s.lh, .int .i64 s.ri, .int .i64 s.dn], .string ⟨#[115, 104, 111, 119]⟩] w fun e w' => e = .returned (.tuple #[.int .i64 s.sh, .agg #[.bool false, .bool false, .int .i64 0]]) ∧ Below w.heap.size w w' := by
  go_enter Tryz.func15, Tryz.ntmps15
  go_wp2
  exact bodyPost_ret (v := .tuple #[.int .i64 s.sh, .agg #[.bool false, .bool false, .int .i64 0]]) (by simp [results, Tryz.results15, go_sem]) rfl ⟨rfl, (by repeat (first | exact Below.refl _ _ | refine Below.drew ?_ | refine Below.setCell ?_ (by first | (simp; done) | (simp; omega)) _ | refine Below.alloc ?_ (by first | (simp; done) | (simp; omega)) _))⟩
set_option maxHeartbeats 4000000 in
theorem l4Get_1 (s : St) (w : World) :
    Calls Tryz.prog 15 #[.agg #[.int .i64 s.sh, .int .i64 s.fl, .int .i64 s.cl, .bool s.w.a, .bool s.w.p, .int .i64 s.w.n, .bool s.h.a, .bool s.h.p, .int .i64 s.h.n, .int .i64 s.mn, .int .i64 s.mx, .int .i64 s.mt, .bool s.mr.a, .bool s.mr.p, .int .i64 s.mr.n, .int .i64 s.mb, .bool s.ml.a, .bool s.ml.p, .int .i64 s.ml.n, .int .i64 s.bo, .int .i64 s.pa, .int .i64 s.wh, .int .i64 s.al, .int .i64 s.lh, .int .i64 s.ri, .int .i64 s.dn], .string ⟨#[102, 108, 111, 97, 116]⟩] w fun e w' => e = .returned (.tuple #[.int .i64 s.fl, .agg #[.bool false, .bool false, .int .i64 0]]) ∧ Below w.heap.size w w' := by
  go_enter Tryz.func15, Tryz.ntmps15
  go_wp2
  exact bodyPost_ret (v := .tuple #[.int .i64 s.fl, .agg #[.bool false, .bool false, .int .i64 0]]) (by simp [results, Tryz.results15, go_sem]) rfl ⟨rfl, (by repeat (first | exact Below.refl _ _ | refine Below.drew ?_ | refine Below.setCell ?_ (by first | (simp; done) | (simp; omega)) _ | refine Below.alloc ?_ (by first | (simp; done) | (simp; omega)) _))⟩
set_option maxHeartbeats 4000000 in
theorem l4Get_2 (s : St) (w : World) :
    Calls Tryz.prog 15 #[.agg #[.int .i64 s.sh, .int .i64 s.fl, .int .i64 s.cl, .bool s.w.a, .bool s.w.p, .int .i64 s.w.n, .bool s.h.a, .bool s.h.p, .int .i64 s.h.n, .int .i64 s.mn, .int .i64 s.mx, .int .i64 s.mt, .bool s.mr.a, .bool s.mr.p, .int .i64 s.mr.n, .int .i64 s.mb, .bool s.ml.a, .bool s.ml.p, .int .i64 s.ml.n, .int .i64 s.bo, .int .i64 s.pa, .int .i64 s.wh, .int .i64 s.al, .int .i64 s.lh, .int .i64 s.ri, .int .i64 s.dn], .string ⟨#[99, 108, 101, 97, 114]⟩] w fun e w' => e = .returned (.tuple #[.int .i64 s.cl, .agg #[.bool false, .bool false, .int .i64 0]]) ∧ Below w.heap.size w w' := by
  go_enter Tryz.func15, Tryz.ntmps15
  go_wp2
  exact bodyPost_ret (v := .tuple #[.int .i64 s.cl, .agg #[.bool false, .bool false, .int .i64 0]]) (by simp [results, Tryz.results15, go_sem]) rfl ⟨rfl, (by repeat (first | exact Below.refl _ _ | refine Below.drew ?_ | refine Below.setCell ?_ (by first | (simp; done) | (simp; omega)) _ | refine Below.alloc ?_ (by first | (simp; done) | (simp; omega)) _))⟩
set_option maxHeartbeats 4000000 in
theorem l4Get_3 (s : St) (w : World) :
    Calls Tryz.prog 15 #[.agg #[.int .i64 s.sh, .int .i64 s.fl, .int .i64 s.cl, .bool s.w.a, .bool s.w.p, .int .i64 s.w.n, .bool s.h.a, .bool s.h.p, .int .i64 s.h.n, .int .i64 s.mn, .int .i64 s.mx, .int .i64 s.mt, .bool s.mr.a, .bool s.mr.p, .int .i64 s.mr.n, .int .i64 s.mb, .bool s.ml.a, .bool s.ml.p, .int .i64 s.ml.n, .int .i64 s.bo, .int .i64 s.pa, .int .i64 s.wh, .int .i64 s.al, .int .i64 s.lh, .int .i64 s.ri, .int .i64 s.dn], .string ⟨#[119, 105, 100, 116, 104]⟩] w fun e w' => e = .returned (.tuple #[.int .i64 0, .agg #[.bool s.w.a, .bool s.w.p, .int .i64 s.w.n]]) ∧ Below w.heap.size w w' := by
  go_enter Tryz.func15, Tryz.ntmps15
  go_wp2_with fail
  go_region_with (fail)
  all_goals
    go_wp2
    exact bodyPost_ret (v := .tuple #[.int .i64 0, .agg #[.bool s.w.a, .bool s.w.p, .int .i64 s.w.n]]) (by simp [results, Tryz.results15, go_sem]) rfl ⟨rfl, (by repeat (first | exact Below.refl _ _ | refine Below.drew ?_ | refine Below.setCell ?_ (by first | (simp; done) | (simp; omega)) _ | refine Below.alloc ?_ (by first | (simp; done) | (simp; omega)) _))⟩
set_option maxHeartbeats 4000000 in
theorem l4Get_4 (s : St) (w : World) :
    Calls Tryz.prog 15 #[.agg #[.int .i64 s.sh, .int .i64 s.fl, .int .i64 s.cl, .bool s.w.a, .bool s.w.p, .int .i64 s.w.n, .bool s.h.a, .bool s.h.p, .int .i64 s.h.n, .int .i64 s.mn, .int .i64 s.mx, .int .i64 s.mt, .bool s.mr.a, .bool s.mr.p, .int .i64 s.mr.n, .int .i64 s.mb, .bool s.ml.a, .bool s.ml.p, .int .i64 s.ml.n, .int .i64 s.bo, .int .i64 s.pa, .int .i64 s.wh, .int .i64 s.al, .int .i64 s.lh, .int .i64 s.ri, .int .i64 s.dn], .string ⟨#[104, 101, 105, 103, 104, 116]⟩] w fun e w' => e = .returned (.tuple #[.int .i64 0, .agg #[.bool s.h.a, .bool s.h.p, .int .i64 s.h.n]]) ∧ Below w.heap.size w w' := by
  go_enter Tryz.func15, Tryz.ntmps15
  go_wp2_with fail
  go_region_with (fail)
  all_goals
    go_wp2
    exact bodyPost_ret (v := .tuple #[.int .i64 0, .agg #[.bool s.h.a, .bool s.h.p, .int .i64 s.h.n]]) (by simp [results, Tryz.results15, go_sem]) rfl ⟨rfl, (by repeat (first | exact Below.refl _ _ | refine Below.drew ?_ | refine Below.setCell ?_ (by first | (simp; done) | (simp; omega)) _ | refine Below.alloc ?_ (by first | (simp; done) | (simp; omega)) _))⟩
set_option maxHeartbeats 4000000 in
theorem l4Get_5 (s : St) (w : World) :
    Calls Tryz.prog 15 #[.agg #[.int .i64 s.sh, .int .i64 s.fl, .int .i64 s.cl, .bool s.w.a, .bool s.w.p, .int .i64 s.w.n, .bool s.h.a, .bool s.h.p, .int .i64 s.h.n, .int .i64 s.mn, .int .i64 s.mx, .int .i64 s.mt, .bool s.mr.a, .bool s.mr.p, .int .i64 s.mr.n, .int .i64 s.mb, .bool s.ml.a, .bool s.ml.p, .int .i64 s.ml.n, .int .i64 s.bo, .int .i64 s.pa, .int .i64 s.wh, .int .i64 s.al, .int .i64 s.lh, .int .i64 s.ri, .int .i64 s.dn], .string ⟨#[109, 105, 110, 45, 119, 105, 100, 116, 104]⟩] w fun e w' => e = .returned (.tuple #[.int .i64 0, .agg #[.bool false, .bool false, .int .i64 s.mn]]) ∧ Below w.heap.size w w' := by
  go_enter Tryz.func15, Tryz.ntmps15
  go_wp2_with (go_at_call 32; refine (l4Len_at _ _).mono ?_; rintro e w1 ⟨rfl, rfl⟩)
  exact bodyPost_ret (v := .tuple #[.int .i64 0, .agg #[.bool false, .bool false, .int .i64 s.mn]]) (by simp [results, Tryz.results15, go_sem]) rfl ⟨rfl, (by repeat (first | exact Below.refl _ _ | refine Below.drew ?_ | refine Below.setCell ?_ (by first | (simp; done) | (simp; omega)) _ | refine Below.alloc ?_ (by first | (simp; done) | (simp; omega)) _))⟩
set_option maxHeartbeats 4000000 in
theorem l4Get_6 (s : St) (w : World) :
    Calls Tryz.prog 15 #[.agg #[.int .i64 s.sh, .int .i64 s.fl, .int .i64 s.cl, .bool s.w.a, .bool s.w.p, .int .i64 s.w.n, .bool s.h.a, .bool s.h.p, .int .i64 s.h.n, .int .i64 s.mn, .int .i64 s.mx, .int .i64 s.mt, .bool s.mr.a, .bool s.mr.p, .int .i64 s.mr.n, .int .i64 s.mb, .bool s.ml.a, .bool s.ml.p, .int .i64 s.ml.n, .int .i64 s.bo, .int .i64 s.pa, .int .i64 s.wh, .int .i64 s.al, .int .i64 s.lh, .int .i64 s.ri, .int .i64 s.dn], .string ⟨#[109, 97, 120, 45, 119, 105, 100, 116, 104]⟩] w fun e w' => e = .returned (.tuple #[.int .i64 0, .agg #[.bool false, .bool false, .int .i64 s.mx]]) ∧ Below w.heap.size w w' := by
  go_enter Tryz.func15, Tryz.ntmps15
  go_wp2_with (go_at_call 32; refine (l4Len_at _ _).mono ?_; rintro e w1 ⟨rfl, rfl⟩)
  exact bodyPost_ret (v := .tuple #[.int .i64 0, .agg #[.bool false, .bool false, .int .i64 s.mx]]) (by simp [results, Tryz.results15, go_sem]) rfl ⟨rfl, (by repeat (first | exact Below.refl _ _ | refine Below.drew ?_ | refine Below.setCell ?_ (by first | (simp; done) | (simp; omega)) _ | refine Below.alloc ?_ (by first | (simp; done) | (simp; omega)) _))⟩
set_option maxHeartbeats 4000000 in
theorem l4Get_7 (s : St) (w : World) :
    Calls Tryz.prog 15 #[.agg #[.int .i64 s.sh, .int .i64 s.fl, .int .i64 s.cl, .bool s.w.a, .bool s.w.p, .int .i64 s.w.n, .bool s.h.a, .bool s.h.p, .int .i64 s.h.n, .int .i64 s.mn, .int .i64 s.mx, .int .i64 s.mt, .bool s.mr.a, .bool s.mr.p, .int .i64 s.mr.n, .int .i64 s.mb, .bool s.ml.a, .bool s.ml.p, .int .i64 s.ml.n, .int .i64 s.bo, .int .i64 s.pa, .int .i64 s.wh, .int .i64 s.al, .int .i64 s.lh, .int .i64 s.ri, .int .i64 s.dn], .string ⟨#[109, 97, 114, 103, 105, 110, 45, 116, 111, 112]⟩] w fun e w' => e = .returned (.tuple #[.int .i64 0, .agg #[.bool false, .bool false, .int .i64 s.mt]]) ∧ Below w.heap.size w w' := by
  go_enter Tryz.func15, Tryz.ntmps15
  go_wp2_with (go_at_call 32; refine (l4Len_at _ _).mono ?_; rintro e w1 ⟨rfl, rfl⟩)
  exact bodyPost_ret (v := .tuple #[.int .i64 0, .agg #[.bool false, .bool false, .int .i64 s.mt]]) (by simp [results, Tryz.results15, go_sem]) rfl ⟨rfl, (by repeat (first | exact Below.refl _ _ | refine Below.drew ?_ | refine Below.setCell ?_ (by first | (simp; done) | (simp; omega)) _ | refine Below.alloc ?_ (by first | (simp; done) | (simp; omega)) _))⟩
set_option maxHeartbeats 4000000 in
theorem l4Get_8 (s : St) (w : World) :
    Calls Tryz.prog 15 #[.agg #[.int .i64 s.sh, .int .i64 s.fl, .int .i64 s.cl, .bool s.w.a, .bool s.w.p, .int .i64 s.w.n, .bool s.h.a, .bool s.h.p, .int .i64 s.h.n, .int .i64 s.mn, .int .i64 s.mx, .int .i64 s.mt, .bool s.mr.a, .bool s.mr.p, .int .i64 s.mr.n, .int .i64 s.mb, .bool s.ml.a, .bool s.ml.p, .int .i64 s.ml.n, .int .i64 s.bo, .int .i64 s.pa, .int .i64 s.wh, .int .i64 s.al, .int .i64 s.lh, .int .i64 s.ri, .int .i64 s.dn], .string ⟨#[109, 97, 114, 103, 105, 110, 45, 114, 105, 103, 104, 116]⟩] w fun e w' => e = .returned (.tuple #[.int .i64 0, .agg #[.bool s.mr.a, .bool s.mr.p, .int .i64 s.mr.n]]) ∧ Below w.heap.size w w' := by
  go_enter Tryz.func15, Tryz.ntmps15
  go_wp2_with fail
  go_region_with (fail)
  all_goals
    go_wp2
    exact bodyPost_ret (v := .tuple #[.int .i64 0, .agg #[.bool s.mr.a, .bool s.mr.p, .int .i64 s.mr.n]]) (by simp [results, Tryz.results15, go_sem]) rfl ⟨rfl, (by repeat (first | exact Below.refl _ _ | refine Below.drew ?_ | refine Below.setCell ?_ (by first | (simp; done) | (simp; omega)) _ | refine Below.alloc ?_ (by first | (simp; done) | (simp; omega)) _))⟩
set_option maxHeartbeats 4000000 in
theorem l4Get_9 (s : St) (w : World) :
    Calls Tryz.prog 15 #[.agg #[.int .i64 s.sh, .int .i64 s.fl, .int .i64 s.cl, .bool s.w.a, .bool s.w.p, .int .i64 s.w.n, .bool s.h.a, .bool s.h.p, .int .i64 s.h.n, .int .i64 s.mn, .int .i64 s.mx, .int .i64 s.mt, .bool s.mr.a, .bool s.mr.p, .int .i64 s.mr.n, .int .i64 s.mb, .bool s.ml.a, .bool s.ml.p, .int .i64 s.ml.n, .int .i64 s.bo, .int .i64 s.pa, .int .i64 s.wh, .int .i64 s.al, .int .i64 s.lh, .int .i64 s.ri, .int .i64 s.dn], .string ⟨#[109, 97, 114, 103, 105, 110, 45, 98, 111, 116, 116, 111, 109]⟩] w fun e w' => e = .returned (.tuple #[.int .i64 0, .agg #[.bool false, .bool false, .int .i64 s.mb]]) ∧ Below w.heap.size w w' := by
  go_enter Tryz.func15, Tryz.ntmps15
  go_wp2_with (go_at_call 32; refine (l4Len_at _ _).mono ?_; rintro e w1 ⟨rfl, rfl⟩)
  exact bodyPost_ret (v := .tuple #[.int .i64 0, .agg #[.bool false, .bool false, .int .i64 s.mb]]) (by simp [results, Tryz.results15, go_sem]) rfl ⟨rfl, (by repeat (first | exact Below.refl _ _ | refine Below.drew ?_ | refine Below.setCell ?_ (by first | (simp; done) | (simp; omega)) _ | refine Below.alloc ?_ (by first | (simp; done) | (simp; omega)) _))⟩
set_option maxHeartbeats 4000000 in
theorem l4Get_10 (s : St) (w : World) :
    Calls Tryz.prog 15 #[.agg #[.int .i64 s.sh, .int .i64 s.fl, .int .i64 s.cl, .bool s.w.a, .bool s.w.p, .int .i64 s.w.n, .bool s.h.a, .bool s.h.p, .int .i64 s.h.n, .int .i64 s.mn, .int .i64 s.mx, .int .i64 s.mt, .bool s.mr.a, .bool s.mr.p, .int .i64 s.mr.n, .int .i64 s.mb, .bool s.ml.a, .bool s.ml.p, .int .i64 s.ml.n, .int .i64 s.bo, .int .i64 s.pa, .int .i64 s.wh, .int .i64 s.al, .int .i64 s.lh, .int .i64 s.ri, .int .i64 s.dn], .string ⟨#[109, 97, 114, 103, 105, 110, 45, 108, 101, 102, 116]⟩] w fun e w' => e = .returned (.tuple #[.int .i64 0, .agg #[.bool s.ml.a, .bool s.ml.p, .int .i64 s.ml.n]]) ∧ Below w.heap.size w w' := by
  go_enter Tryz.func15, Tryz.ntmps15
  go_wp2_with fail
  go_region_with (fail)
  all_goals
    go_wp2
    exact bodyPost_ret (v := .tuple #[.int .i64 0, .agg #[.bool s.ml.a, .bool s.ml.p, .int .i64 s.ml.n]]) (by simp [results, Tryz.results15, go_sem]) rfl ⟨rfl, (by repeat (first | exact Below.refl _ _ | refine Below.drew ?_ | refine Below.setCell ?_ (by first | (simp; done) | (simp; omega)) _ | refine Below.alloc ?_ (by first | (simp; done) | (simp; omega)) _))⟩
set_option maxHeartbeats 4000000 in
theorem l4Get_11 (s : St) (w : World) :
    Calls Tryz.prog 15 #[.agg #[.int .i64 s.sh, .int .i64 s.fl, .int .i64 s.cl, .bool s.w.a, .bool s.w.p, .int .i64 s.w.n, .bool s.h.a, .bool s.h.p, .int .i64 s.h.n, .int .i64 s.mn, .int .i64 s.mx, .int .i64 s.mt, .bool s.mr.a, .bool s.mr.p, .int .i64 s.mr.n, .int .i64 s.mb, .bool s.ml.a, .bool s.ml.p, .int .i64 s.ml.n, .int .i64 s.bo, .int .i64 s.pa, .int .i64 s.wh, .int .i64 s.al, .int .i64 s.lh, .int .i64 s.ri, .int .i64 s.dn], .string ⟨#[98, 111, 114, 100, 101, 114]⟩] w fun e w' => e = .returned (.tuple #[.int .i64 0, .agg #[.bool false, .bool false, .int .i64 s.bo]]) ∧ Below w.heap.size w w' := by
  go_enter Tryz.func15, Tryz.ntmps15
  go_wp2_with (go_at_call 32; refine (l4Len_at _ _).mono ?_; rintro e w1 ⟨rfl, rfl⟩)
  exact bodyPost_ret (v := .tuple #[.int .i64 0, .agg #[.bool false, .bool false, .int .i64 s.bo]]) (by simp [results, Tryz.results15, go_sem]) rfl ⟨rfl, (by repeat (first | exact Below.refl _ _ | refine Below.drew ?_ | refine Below.setCell ?_ (by first | (simp; done) | (simp; omega)) _ | refine Below.alloc ?_ (by first | (simp; done) | (simp; omega)) _))⟩
set_option maxHeartbeats 4000000 in
theorem l4Get_12 (s : St) (w : World) :
    Calls Tryz.prog 15 #[.agg #[.int .i64 s.sh, .int .i64 s.fl, .int .i64 s.cl, .bool s.w.a, .bool s.w.p, .int .i64 s.w.n, .bool s.h.a, .bool s.h.p, .int .i64 s.h.n, .int .i64 s.mn, .int .i64 s.mx, .int .i64 s.mt, .bool s.mr.a, .bool s.mr.p, .int .i64 s.mr.n, .int .i64 s.mb, .bool s.ml.a, .bool s.ml.p, .int .i64 s.ml.n, .int .i64 s.bo, .int .i64 s.pa, .int .i64 s.wh, .int .i64 s.al, .int .i64 s.lh, .int .i64 s.ri, .int .i64 s.dn], .string ⟨#[112, 97, 100, 100, 105, 110, 103]⟩] w fun e w' => e = .returned (.tuple #[.int .i64 0, .agg #[.bool false, .bool false, .int .i64 s.pa]]) ∧ Below w.heap.size w w' := by
  go_enter Tryz.func15, Tryz.ntmps15
  go_wp2_with (go_at_call 32; refine (l4Len_at _ _).mono ?_; rintro e w1 ⟨rfl, rfl⟩)
  exact bodyPost_ret (v := .tuple #[.int .i64 0, .agg #[.bool false, .bool false, .int .i64 s.pa]]) (by simp [results, Tryz.results15, go_sem]) rfl ⟨rfl, (by repeat (first | exact Below.refl _ _ | refine Below.drew ?_ | refine Below.setCell ?_ (by first | (simp; done) | (simp; omega)) _ | refine Below.alloc ?_ (by first | (simp; done) | (simp; omega)) _))⟩
set_option maxHeartbeats 4000000 in
theorem l4Get_13 (s : St) (w : World) :
    Calls Tryz.prog 15 #[.agg #[.int .i64 s.sh, .int .i64 s.fl, .int .i64 s.cl, .bool s.w.a, .bool s.w.p, .int .i64 s.w.n, .bool s.h.a, .bool s.h.p, .int .i64 s.h.n, .int .i64 s.mn, .int .i64 s.mx, .int .i64 s.mt, .bool s.mr.a, .bool s.mr.p, .int .i64 s.mr.n, .int .i64 s.mb, .bool s.ml.a, .bool s.ml.p, .int .i64 s.ml.n, .int .i64 s.bo, .int .i64 s.pa, .int .i64 s.wh, .int .i64 s.al, .int .i64 s.lh, .int .i64 s.ri, .int .i64 s.dn], .string ⟨#[119, 104, 105, 116, 101]⟩] w fun e w' => e = .returned (.tuple #[.int .i64 s.wh, .agg #[.bool false, .bool false, .int .i64 0]]) ∧ Below w.heap.size w w' := by
  go_enter Tryz.func15, Tryz.ntmps15
  go_wp2
  exact bodyPost_ret (v := .tuple #[.int .i64 s.wh, .agg #[.bool false, .bool false, .int .i64 0]]) (by simp [results, Tryz.results15, go_sem]) rfl ⟨rfl, (by repeat (first | exact Below.refl _ _ | refine Below.drew ?_ | refine Below.setCell ?_ (by first | (simp; done) | (simp; omega)) _ | refine Below.alloc ?_ (by first | (simp; done) | (simp; omega)) _))⟩
set_option maxHeartbeats 4000000 in
theorem l4Get_14 (s : St) (w : World) :
    Calls Tryz.prog 15 #[.agg #[.int .i64 s.sh, .int .i64 s.fl, .int .i64 s.cl, .bool s.w.a, .bool s.w.p, .int .i64 s.w.n, .bool s.h.a, .bool s.h.p, .int .i64 s.h.n, .int .i64 s.mn, .int .i64 s.mx, .int .i64 s.mt, .bool s.mr.a, .bool s.mr.p, .int .i64 s.mr.n, .int .i64 s.mb, .bool s.ml.a, .bool s.ml.p, .int .i64 s.ml.n, .int .i64 s.bo, .int .i64 s.pa, .int .i64 s.wh, .int .i64 s.al, .int .i64 s.lh, .int .i64 s.ri, .int .i64 s.dn], .string ⟨#[97, 108, 105, 103, 110]⟩] w fun e w' => e = .returned (.tuple #[.int .i64 s.al, .agg #[.bool false, .bool false, .int .i64 0]]) ∧ Below w.heap.size w w' := by
  go_enter Tryz.func15, Tryz.ntmps15
  go_wp2
  exact bodyPost_ret (v := .tuple #[.int .i64 s.al, .agg #[.bool false, .bool false, .int .i64 0]]) (by simp [results, Tryz.results15, go_sem]) rfl ⟨rfl, (by repeat (first | exact Below.refl _ _ | refine Below.drew ?_ | refine Below.setCell ?_ (by first | (simp; done) | (simp; omega)) _ | refine Below.alloc ?_ (by first | (simp; done) | (simp; omega)) _))⟩
set_option maxHeartbeats 4000000 in
theorem l4Get_15 (s : St) (w : World) :
    Calls Tryz.prog 15 #[.agg #[.int .i64 s.sh, .int .i64 s.fl, .int .i64 s.cl, .bool s.w.a, .bool s.w.p, .int .i64 s.w.n, .bool s.h.a, .bool s.h.p, .int .i64 s.h.n, .int .i64 s.mn, .int .i64 s.mx, .int .i64 s.mt, .bool s.mr.a, .bool s.mr.p, .int .i64 s.mr.n, .int .i64 s.mb, .bool s.ml.a, .bool s.ml.p, .int .i64 s.ml.n, .int .i64 s.bo, .int .i64 s.pa, .int .i64 s.wh, .int .i64 s.al, .int .i64 s.lh, .int .i64 s.ri, .int .i64 s.dn], .string ⟨#[108, 105, 110, 101, 45, 104, 101, 105, 103, 104, 116]⟩] w fun e w' => e = .returned (.tuple #[.int .i64 0, .agg #[.bool false, .bool false, .int .i64 s.lh]]) ∧ Below w.heap.size w w' := by
  go_enter Tryz.func15, Tryz.ntmps15
  go_wp2_with (go_at_call 32; refine (l4Len_at _ _).mono ?_; rintro e w1 ⟨rfl, rfl⟩)
  exact bodyPost_ret (v := .tuple #[.int .i64 0, .agg #[.bool false, .bool false, .int .i64 s.lh]]) (by simp [results, Tryz.results15, go_sem]) rfl ⟨rfl, (by repeat (first | exact Below.refl _ _ | refine Below.drew ?_ | refine Below.setCell ?_ (by first | (simp; done) | (simp; omega)) _ | refine Below.alloc ?_ (by first | (simp; done) | (simp; omega)) _))⟩
set_option maxHeartbeats 4000000 in
theorem l4Get_16 (s : St) (w : World) :
    Calls Tryz.prog 15 #[.agg #[.int .i64 s.sh, .int .i64 s.fl, .int .i64 s.cl, .bool s.w.a, .bool s.w.p, .int .i64 s.w.n, .bool s.h.a, .bool s.h.p, .int .i64 s.h.n, .int .i64 s.mn, .int .i64 s.mx, .int .i64 s.mt, .bool s.mr.a, .bool s.mr.p, .int .i64 s.mr.n, .int .i64 s.mb, .bool s.ml.a, .bool s.ml.p, .int .i64 s.ml.n, .int .i64 s.bo, .int .i64 s.pa, .int .i64 s.wh, .int .i64 s.al, .int .i64 s.lh, .int .i64 s.ri, .int .i64 s.dn], .string ⟨#[114, 105, 103, 104, 116]⟩] w fun e w' => e = .returned (.tuple #[.int .i64 0, .agg #[.bool false, .bool false, .int .i64 s.ri]]) ∧ Below w.heap.size w w' := by
  go_enter Tryz.func15, Tryz.ntmps15
  go_wp2_with (go_at_call 32; refine (l4Len_at _ _).mono ?_; rintro e w1 ⟨rfl, rfl⟩)
  exact bodyPost_ret (v := .tuple #[.int .i64 0, .agg #[.bool false, .bool false, .int .i64 s.ri]]) (by simp [results, Tryz.results15, go_sem]) rfl ⟨rfl, (by repeat (first | exact Below.refl _ _ | refine Below.drew ?_ | refine Below.setCell ?_ (by first | (simp; done) | (simp; omega)) _ | refine Below.alloc ?_ (by first | (simp; done) | (simp; omega)) _))⟩
set_option maxHeartbeats 4000000 in
theorem l4Get_17 (s : St) (w : World) :
    Calls Tryz.prog 15 #[.agg #[.int .i64 s.sh, .int .i64 s.fl, .int .i64 s.cl, .bool s.w.a, .bool s.w.p, .int .i64 s.w.n, .bool s.h.a, .bool s.h.p, .int .i64 s.h.n, .int .i64 s.mn, .int .i64 s.mx, .int .i64 s.mt, .bool s.mr.a, .bool s.mr.p, .int .i64 s.mr.n, .int .i64 s.mb, .bool s.ml.a, .bool s.ml.p, .int .i64 s.ml.n, .int .i64 s.bo, .int .i64 s.pa, .int .i64 s.wh, .int .i64 s.al, .int .i64 s.lh, .int .i64 s.ri, .int .i64 s.dn], .string ⟨#[100, 111, 119, 110]⟩] w fun e w' => e = .returned (.tuple #[.int .i64 0, .agg #[.bool false, .bool false, .int .i64 s.dn]]) ∧ Below w.heap.size w w' := by
  go_enter Tryz.func15, Tryz.ntmps15
  go_wp2_with (go_at_call 32; refine (l4Len_at _ _).mono ?_; rintro e w1 ⟨rfl, rfl⟩)
  exact bodyPost_ret (v := .tuple #[.int .i64 0, .agg #[.bool false, .bool false, .int .i64 s.dn]]) (by simp [results, Tryz.results15, go_sem]) rfl ⟨rfl, (by repeat (first | exact Below.refl _ _ | refine Below.drew ?_ | refine Below.setCell ?_ (by first | (simp; done) | (simp; omega)) _ | refine Below.alloc ?_ (by first | (simp; done) | (simp; omega)) _))⟩
end Go.Proofs.YtojdmcennpgndaaGreatDoor

namespace Go.Proofs.YtojdmcennpgndaaGreatDoor
open Go.ChangeShapes Go.WideShapes Go.ChangeAt Go.RowKit
set_option linter.unusedVariables false

def nameCells : Array Value := #[.string ⟨#[115, 104, 111, 119]⟩, .string ⟨#[102, 108, 111, 97, 116]⟩, .string ⟨#[99, 108, 101, 97, 114]⟩, .string ⟨#[119, 105, 100, 116, 104]⟩, .string ⟨#[104, 101, 105, 103, 104, 116]⟩, .string ⟨#[109, 105, 110, 45, 119, 105, 100, 116, 104]⟩, .string ⟨#[109, 97, 120, 45, 119, 105, 100, 116, 104]⟩, .string ⟨#[109, 97, 114, 103, 105, 110, 45, 116, 111, 112]⟩, .string ⟨#[109, 97, 114, 103, 105, 110, 45, 114, 105, 103, 104, 116]⟩, .string ⟨#[109, 97, 114, 103, 105, 110, 45, 98, 111, 116, 116, 111, 109]⟩, .string ⟨#[109, 97, 114, 103, 105, 110, 45, 108, 101, 102, 116]⟩, .string ⟨#[98, 111, 114, 100, 101, 114]⟩, .string ⟨#[112, 97, 100, 100, 105, 110, 103]⟩, .string ⟨#[119, 104, 105, 116, 101]⟩, .string ⟨#[97, 108, 105, 103, 110]⟩, .string ⟨#[108, 105, 110, 101, 45, 104, 101, 105, 103, 104, 116]⟩, .string ⟨#[114, 105, 103, 104, 116]⟩, .string ⟨#[100, 111, 119, 110]⟩]
set_option maxRecDepth 100000 in
set_option maxHeartbeats 2000000 in
theorem l4Names_at (w : World) : Calls Tryz.prog 14 #[] w fun e w' => e = .returned (.slice (some ⟨w.heap.size, 0, none⟩) 18 18) ∧ w' = w.alloc (.cells nameCells 9) := by
  go_enter Tryz.func14, Tryz.ntmps14
  go_wp2_with ((with_reducible show wpList _ _ _ (⟨_, Op.buildSlice _ _ _, _, _, _, _⟩ :: _) _ _); refine Great.wpList_buildSliceTo rfl 39 9 18 _ rfl w.heap.size rfl _ rfl Tryz.underlying39 nameCells (by kernel_rfl) ?_)
  go_ret
  exact ⟨rfl, rfl⟩

theorem l4Words_0 (w : World) : Calls Tryz.prog 35 #[.string ⟨#[115, 104, 111, 119]⟩] w fun e w' => e = .returned (.slice (some ⟨w.heap.size, 0, none⟩) 4 4) ∧ w' = w.alloc (.cells #[.string ⟨#[]⟩, .string ⟨#[98, 108, 111, 99, 107]⟩, .string ⟨#[105, 110, 108, 105, 110, 101]⟩, .string ⟨#[110, 111, 110, 101]⟩] 9) := by
  go_enter Tryz.func35, Tryz.ntmps35
  go_wp2
  go_ret
  exact ⟨rfl, rfl⟩
theorem l4Words_1 (w : World) : Calls Tryz.prog 35 #[.string ⟨#[102, 108, 111, 97, 116]⟩] w fun e w' => e = .returned (.slice (some ⟨w.heap.size, 0, none⟩) 3 3) ∧ w' = w.alloc (.cells #[.string ⟨#[110, 111, 110, 101]⟩, .string ⟨#[108, 101, 102, 116]⟩, .string ⟨#[114, 105, 103, 104, 116]⟩] 9) := by
  go_enter Tryz.func35, Tryz.ntmps35
  go_wp2
  go_ret
  exact ⟨rfl, rfl⟩
theorem l4Words_2 (w : World) : Calls Tryz.prog 35 #[.string ⟨#[99, 108, 101, 97, 114]⟩] w fun e w' => e = .returned (.slice (some ⟨w.heap.size, 0, none⟩) 4 4) ∧ w' = w.alloc (.cells #[.string ⟨#[110, 111, 110, 101]⟩, .string ⟨#[108, 101, 102, 116]⟩, .string ⟨#[114, 105, 103, 104, 116]⟩, .string ⟨#[98, 111, 116, 104]⟩] 9) := by
  go_enter Tryz.func35, Tryz.ntmps35
  go_wp2
  go_ret
  exact ⟨rfl, rfl⟩
theorem l4Words_3 (w : World) : Calls Tryz.prog 35 #[.string ⟨#[119, 105, 100, 116, 104]⟩] w fun e w' => e = .returned (.slice none 0 0) ∧ w' = w := by
  go_enter Tryz.func35, Tryz.ntmps35
  go_wp2
  go_ret
  exact ⟨rfl, rfl⟩
theorem l4Words_4 (w : World) : Calls Tryz.prog 35 #[.string ⟨#[104, 101, 105, 103, 104, 116]⟩] w fun e w' => e = .returned (.slice none 0 0) ∧ w' = w := by
  go_enter Tryz.func35, Tryz.ntmps35
  go_wp2
  go_ret
  exact ⟨rfl, rfl⟩
theorem l4Words_5 (w : World) : Calls Tryz.prog 35 #[.string ⟨#[109, 105, 110, 45, 119, 105, 100, 116, 104]⟩] w fun e w' => e = .returned (.slice none 0 0) ∧ w' = w := by
  go_enter Tryz.func35, Tryz.ntmps35
  go_wp2
  go_ret
  exact ⟨rfl, rfl⟩
theorem l4Words_6 (w : World) : Calls Tryz.prog 35 #[.string ⟨#[109, 97, 120, 45, 119, 105, 100, 116, 104]⟩] w fun e w' => e = .returned (.slice none 0 0) ∧ w' = w := by
  go_enter Tryz.func35, Tryz.ntmps35
  go_wp2
  go_ret
  exact ⟨rfl, rfl⟩
theorem l4Words_7 (w : World) : Calls Tryz.prog 35 #[.string ⟨#[109, 97, 114, 103, 105, 110, 45, 116, 111, 112]⟩] w fun e w' => e = .returned (.slice none 0 0) ∧ w' = w := by
  go_enter Tryz.func35, Tryz.ntmps35
  go_wp2
  go_ret
  exact ⟨rfl, rfl⟩
theorem l4Words_8 (w : World) : Calls Tryz.prog 35 #[.string ⟨#[109, 97, 114, 103, 105, 110, 45, 114, 105, 103, 104, 116]⟩] w fun e w' => e = .returned (.slice none 0 0) ∧ w' = w := by
  go_enter Tryz.func35, Tryz.ntmps35
  go_wp2
  go_ret
  exact ⟨rfl, rfl⟩
theorem l4Words_9 (w : World) : Calls Tryz.prog 35 #[.string ⟨#[109, 97, 114, 103, 105, 110, 45, 98, 111, 116, 116, 111, 109]⟩] w fun e w' => e = .returned (.slice none 0 0) ∧ w' = w := by
  go_enter Tryz.func35, Tryz.ntmps35
  go_wp2
  go_ret
  exact ⟨rfl, rfl⟩
theorem l4Words_10 (w : World) : Calls Tryz.prog 35 #[.string ⟨#[109, 97, 114, 103, 105, 110, 45, 108, 101, 102, 116]⟩] w fun e w' => e = .returned (.slice none 0 0) ∧ w' = w := by
  go_enter Tryz.func35, Tryz.ntmps35
  go_wp2
  go_ret
  exact ⟨rfl, rfl⟩
theorem l4Words_11 (w : World) : Calls Tryz.prog 35 #[.string ⟨#[98, 111, 114, 100, 101, 114]⟩] w fun e w' => e = .returned (.slice none 0 0) ∧ w' = w := by
  go_enter Tryz.func35, Tryz.ntmps35
  go_wp2
  go_ret
  exact ⟨rfl, rfl⟩
theorem l4Words_12 (w : World) : Calls Tryz.prog 35 #[.string ⟨#[112, 97, 100, 100, 105, 110, 103]⟩] w fun e w' => e = .returned (.slice none 0 0) ∧ w' = w := by
  go_enter Tryz.func35, Tryz.ntmps35
  go_wp2
  go_ret
  exact ⟨rfl, rfl⟩
theorem l4Words_13 (w : World) : Calls Tryz.prog 35 #[.string ⟨#[119, 104, 105, 116, 101]⟩] w fun e w' => e = .returned (.slice (some ⟨w.heap.size, 0, none⟩) 6 6) ∧ w' = w.alloc (.cells #[.string ⟨#[]⟩, .string ⟨#[110, 111, 114, 109, 97, 108]⟩, .string ⟨#[110, 111, 119, 114, 97, 112]⟩, .string ⟨#[112, 114, 101]⟩, .string ⟨#[112, 114, 101, 45, 119, 114, 97, 112]⟩, .string ⟨#[112, 114, 101, 45, 108, 105, 110, 101]⟩] 9) := by
  go_enter Tryz.func35, Tryz.ntmps35
  go_wp2
  go_ret
  exact ⟨rfl, rfl⟩
theorem l4Words_14 (w : World) : Calls Tryz.prog 35 #[.string ⟨#[97, 108, 105, 103, 110]⟩] w fun e w' => e = .returned (.slice (some ⟨w.heap.size, 0, none⟩) 4 4) ∧ w' = w.alloc (.cells #[.string ⟨#[]⟩, .string ⟨#[108, 101, 102, 116]⟩, .string ⟨#[114, 105, 103, 104, 116]⟩, .string ⟨#[99, 101, 110, 116, 101, 114]⟩] 9) := by
  go_enter Tryz.func35, Tryz.ntmps35
  go_wp2
  go_ret
  exact ⟨rfl, rfl⟩
theorem l4Words_15 (w : World) : Calls Tryz.prog 35 #[.string ⟨#[108, 105, 110, 101, 45, 104, 101, 105, 103, 104, 116]⟩] w fun e w' => e = .returned (.slice none 0 0) ∧ w' = w := by
  go_enter Tryz.func35, Tryz.ntmps35
  go_wp2
  go_ret
  exact ⟨rfl, rfl⟩
theorem l4Words_16 (w : World) : Calls Tryz.prog 35 #[.string ⟨#[114, 105, 103, 104, 116]⟩] w fun e w' => e = .returned (.slice none 0 0) ∧ w' = w := by
  go_enter Tryz.func35, Tryz.ntmps35
  go_wp2
  go_ret
  exact ⟨rfl, rfl⟩
theorem l4Words_17 (w : World) : Calls Tryz.prog 35 #[.string ⟨#[100, 111, 119, 110]⟩] w fun e w' => e = .returned (.slice none 0 0) ∧ w' = w := by
  go_enter Tryz.func35, Tryz.ntmps35
  go_wp2
  go_ret
  exact ⟨rfl, rfl⟩

end Go.Proofs.YtojdmcennpgndaaGreatDoor

namespace Go.Proofs.YtojdmcennpgndaaGreatDoor
open Go.ChangeShapes Go.WideShapes Go.ChangeAt Go.RowKit
set_option linter.unusedVariables false

def getN (s : St) (k : Nat) : Int := ([s.sh, s.fl, s.cl, 0, 0, 0, 0, 0, 0, 0, 0, 0, 0, s.wh, s.al, 0, 0, 0] : List Int).getD k 0
def getZ (s : St) (k : Nat) : Sz := ([⟨false, false, 0⟩, ⟨false, false, 0⟩, ⟨false, false, 0⟩, s.w, s.h, ⟨false, false, s.mn⟩, ⟨false, false, s.mx⟩, ⟨false, false, s.mt⟩, s.mr, ⟨false, false, s.mb⟩, s.ml, ⟨false, false, s.bo⟩, ⟨false, false, s.pa⟩, ⟨false, false, 0⟩, ⟨false, false, 0⟩, ⟨false, false, s.lh⟩, ⟨false, false, s.ri⟩, ⟨false, false, s.dn⟩] : List Sz).getD k ⟨false, false, 0⟩
def isW (k : Nat) : Bool := ([true, true, true, false, false, false, false, false, false, false, false, false, false, true, true, false, false, false] : List Bool).getD k false
def wl (k : Nat) : List ByteArray := ([[⟨#[]⟩, ⟨#[98, 108, 111, 99, 107]⟩, ⟨#[105, 110, 108, 105, 110, 101]⟩, ⟨#[110, 111, 110, 101]⟩], [⟨#[110, 111, 110, 101]⟩, ⟨#[108, 101, 102, 116]⟩, ⟨#[114, 105, 103, 104, 116]⟩], [⟨#[110, 111, 110, 101]⟩, ⟨#[108, 101, 102, 116]⟩, ⟨#[114, 105, 103, 104, 116]⟩, ⟨#[98, 111, 116, 104]⟩], [], [], [], [], [], [], [], [], [], [], [⟨#[]⟩, ⟨#[110, 111, 114, 109, 97, 108]⟩, ⟨#[110, 111, 119, 114, 97, 112]⟩, ⟨#[112, 114, 101]⟩, ⟨#[112, 114, 101, 45, 119, 114, 97, 112]⟩, ⟨#[112, 114, 101, 45, 108, 105, 110, 101]⟩], [⟨#[]⟩, ⟨#[108, 101, 102, 116]⟩, ⟨#[114, 105, 103, 104, 116]⟩, ⟨#[99, 101, 110, 116, 101, 114]⟩], [], [], []] : List (List ByteArray)).getD k []
theorem get_any (s : St) (k : Nat) (hk : k < 18) (w : World) :
    Calls Tryz.prog 15 #[.agg #[.int .i64 s.sh, .int .i64 s.fl, .int .i64 s.cl, .bool s.w.a, .bool s.w.p, .int .i64 s.w.n, .bool s.h.a, .bool s.h.p, .int .i64 s.h.n, .int .i64 s.mn, .int .i64 s.mx, .int .i64 s.mt, .bool s.mr.a, .bool s.mr.p, .int .i64 s.mr.n, .int .i64 s.mb, .bool s.ml.a, .bool s.ml.p, .int .i64 s.ml.n, .int .i64 s.bo, .int .i64 s.pa, .int .i64 s.wh, .int .i64 s.al, .int .i64 s.lh, .int .i64 s.ri, .int .i64 s.dn], .string (nmT k)] w fun e w' => e = .returned (.tuple #[.int .i64 (getN s k), .agg #[.bool (getZ s k).a, .bool (getZ s k).p, .int .i64 (getZ s k).n]]) ∧ Below w.heap.size w w' := by
  rcases lt18 hk with rfl | rfl | rfl | rfl | rfl | rfl | rfl | rfl | rfl | rfl | rfl | rfl | rfl | rfl | rfl | rfl | rfl | rfl
  · exact l4Get_0 s w
  · exact l4Get_1 s w
  · exact l4Get_2 s w
  · exact l4Get_3 s w
  · exact l4Get_4 s w
  · exact l4Get_5 s w
  · exact l4Get_6 s w
  · exact l4Get_7 s w
  · exact l4Get_8 s w
  · exact l4Get_9 s w
  · exact l4Get_10 s w
  · exact l4Get_11 s w
  · exact l4Get_12 s w
  · exact l4Get_13 s w
  · exact l4Get_14 s w
  · exact l4Get_15 s w
  · exact l4Get_16 s w
  · exact l4Get_17 s w
theorem words_any (k : Nat) (hk : k < 18) (w : World) :
    Calls Tryz.prog 35 #[.string (nmT k)] w fun e w' => (isW k = true ∧ e = .returned (.slice (some ⟨w.heap.size, 0, none⟩) (wl k).length (wl k).length) ∧ w' = w.alloc (.cells ((wl k).map Value.string).toArray 9)) ∨ (isW k = false ∧ e = .returned (.slice none 0 0) ∧ w' = w) := by
  rcases lt18 hk with rfl | rfl | rfl | rfl | rfl | rfl | rfl | rfl | rfl | rfl | rfl | rfl | rfl | rfl | rfl | rfl | rfl | rfl
  · exact (l4Words_0 w).mono fun e w' h => .inl ⟨rfl, h.1, h.2⟩
  · exact (l4Words_1 w).mono fun e w' h => .inl ⟨rfl, h.1, h.2⟩
  · exact (l4Words_2 w).mono fun e w' h => .inl ⟨rfl, h.1, h.2⟩
  · exact (l4Words_3 w).mono fun e w' h => .inr ⟨rfl, h.1, h.2⟩
  · exact (l4Words_4 w).mono fun e w' h => .inr ⟨rfl, h.1, h.2⟩
  · exact (l4Words_5 w).mono fun e w' h => .inr ⟨rfl, h.1, h.2⟩
  · exact (l4Words_6 w).mono fun e w' h => .inr ⟨rfl, h.1, h.2⟩
  · exact (l4Words_7 w).mono fun e w' h => .inr ⟨rfl, h.1, h.2⟩
  · exact (l4Words_8 w).mono fun e w' h => .inr ⟨rfl, h.1, h.2⟩
  · exact (l4Words_9 w).mono fun e w' h => .inr ⟨rfl, h.1, h.2⟩
  · exact (l4Words_10 w).mono fun e w' h => .inr ⟨rfl, h.1, h.2⟩
  · exact (l4Words_11 w).mono fun e w' h => .inr ⟨rfl, h.1, h.2⟩
  · exact (l4Words_12 w).mono fun e w' h => .inr ⟨rfl, h.1, h.2⟩
  · exact (l4Words_13 w).mono fun e w' h => .inl ⟨rfl, h.1, h.2⟩
  · exact (l4Words_14 w).mono fun e w' h => .inl ⟨rfl, h.1, h.2⟩
  · exact (l4Words_15 w).mono fun e w' h => .inr ⟨rfl, h.1, h.2⟩
  · exact (l4Words_16 w).mono fun e w' h => .inr ⟨rfl, h.1, h.2⟩
  · exact (l4Words_17 w).mono fun e w' h => .inr ⟨rfl, h.1, h.2⟩
theorem name_cell {k : Nat} (hk : k < 18) : nameCells[k]? = some (.string (nmT k)) := by
  rcases lt18 hk with rfl | rfl | rfl | rfl | rfl | rfl | rfl | rfl | rfl | rfl | rfl | rfl | rfl | rfl | rfl | rfl | rfl | rfl <;> rfl
theorem sameB_eq (s : St) {k : Nat} (hk : k < 18) : sameB s k = (decide (getN s k = getN plainS k) && decide ((getZ s k).a = (getZ plainS k).a ∧ (getZ s k).p = (getZ plainS k).p ∧ (getZ s k).n = (getZ plainS k).n)) := by
  rcases lt18 hk with rfl | rfl | rfl | rfl | rfl | rfl | rfl | rfl | rfl | rfl | rfl | rfl | rfl | rfl | rfl | rfl | rfl | rfl <;> simp [sameB, getN, getZ, plainS]
theorem tokT_plain (s : St) {k : Nat} (hk : k < 18) (h : isW k = false) : tokT s k = toldT (getZ s k).a (getZ s k).p (getZ s k).n := by
  rcases lt18 hk with rfl | rfl | rfl | rfl | rfl | rfl | rfl | rfl | rfl | rfl | rfl | rfl | rfl | rfl | rfl | rfl | rfl | rfl <;> first | rfl | (exact absurd h (by decide))
theorem getZ_bd (s : St) {k : Nat} (hk : k < 18) (hs : styleB s = true) : -1000000 ≤ (getZ s k).n ∧ (getZ s k).n ≤ 1000000 := by
  have h := hs
  unfold styleB gA gB gC gD gE at h
  simp only [Bool.and_eq_true] at h
  have z1 := size_bd h.1.1.1.2.1.1.1
  have z2 := size_bd h.1.1.1.2.1.1.2
  have z3 := size_bd h.1.1.1.2.1.2
  have z4 := size_bd h.1.1.1.2.2
  have b1 := inB_yes h.1.1.2.1.2
  have b2 := inB_yes h.1.1.2.2
  have b3 := inB_yes h.1.2.1.1.1
  have b4 := inB_yes h.1.2.1.1.2
  have b5 := inB_yes h.1.2.1.2
  have b6 := inB_yes h.1.2.2
  have b7 := inB_yes h.2.1.1
  have b8 := inB_yes h.2.1.2
  have b9 := inB_yes h.2.2
  clear h hs
  rcases lt18 hk with rfl | rfl | rfl | rfl | rfl | rfl | rfl | rfl | rfl | rfl | rfl | rfl | rfl | rfl | rfl | rfl | rfl | rfl <;> simp only [getZ, List.getD_cons_zero, List.getD_cons_succ] <;> omega
theorem word_at (s : St) {k : Nat} (hk : k < 18) (hs : styleB s = true) (hw : isW k = true) : ∃ m : Nat, getN s k = m ∧ m < (wl k).length ∧ (wl k).length ≤ 6 ∧ (wl k)[m]? = some (tokT s k) := by
  have h := hs
  unfold styleB gA gB gC gD gE at h
  simp only [Bool.and_eq_true] at h
  have r_sh := inB_yes h.1.1.1.1.1.1.1.1
  have r_fl := inB_yes h.1.1.1.1.1.1.1.2
  have r_cl := inB_yes h.1.1.1.1.1.1.2
  have r_wh := inB_yes h.1.1.1.1.1.2
  have r_al := inB_yes h.1.1.1.1.2
  clear h hs
  rcases lt18 hk with rfl | rfl | rfl | rfl | rfl | rfl | rfl | rfl | rfl | rfl | rfl | rfl | rfl | rfl | rfl | rfl | rfl | rfl
  · have hx : s.sh = 1 ∨ s.sh = 2 ∨ s.sh = 3 := by omega
    rcases hx with hx | hx | hx
    · exact ⟨1, hx, by decide, by decide, by show _ = some (([ByteArray.empty, ⟨#[98, 108, 111, 99, 107]⟩, ⟨#[105, 110, 108, 105, 110, 101]⟩, ⟨#[110, 111, 110, 101]⟩] : List ByteArray).getD s.sh.toNat ByteArray.empty); rw [hx]; rfl⟩
    · exact ⟨2, hx, by decide, by decide, by show _ = some (([ByteArray.empty, ⟨#[98, 108, 111, 99, 107]⟩, ⟨#[105, 110, 108, 105, 110, 101]⟩, ⟨#[110, 111, 110, 101]⟩] : List ByteArray).getD s.sh.toNat ByteArray.empty); rw [hx]; rfl⟩
    · exact ⟨3, hx, by decide, by decide, by show _ = some (([ByteArray.empty, ⟨#[98, 108, 111, 99, 107]⟩, ⟨#[105, 110, 108, 105, 110, 101]⟩, ⟨#[110, 111, 110, 101]⟩] : List ByteArray).getD s.sh.toNat ByteArray.empty); rw [hx]; rfl⟩
  · have hx : s.fl = 0 ∨ s.fl = 1 ∨ s.fl = 2 := by omega
    rcases hx with hx | hx | hx
    · exact ⟨0, hx, by decide, by decide, by show _ = some (([⟨#[110, 111, 110, 101]⟩, ⟨#[108, 101, 102, 116]⟩, ⟨#[114, 105, 103, 104, 116]⟩] : List ByteArray).getD s.fl.toNat ByteArray.empty); rw [hx]; rfl⟩
    · exact ⟨1, hx, by decide, by decide, by show _ = some (([⟨#[110, 111, 110, 101]⟩, ⟨#[108, 101, 102, 116]⟩, ⟨#[114, 105, 103, 104, 116]⟩] : List ByteArray).getD s.fl.toNat ByteArray.empty); rw [hx]; rfl⟩
    · exact ⟨2, hx, by decide, by decide, by show _ = some (([⟨#[110, 111, 110, 101]⟩, ⟨#[108, 101, 102, 116]⟩, ⟨#[114, 105, 103, 104, 116]⟩] : List ByteArray).getD s.fl.toNat ByteArray.empty); rw [hx]; rfl⟩
  · have hx : s.cl = 0 ∨ s.cl = 1 ∨ s.cl = 2 ∨ s.cl = 3 := by omega
    rcases hx with hx | hx | hx | hx
    · exact ⟨0, hx, by decide, by decide, by show _ = some (([⟨#[110, 111, 110, 101]⟩, ⟨#[108, 101, 102, 116]⟩, ⟨#[114, 105, 103, 104, 116]⟩, ⟨#[98, 111, 116, 104]⟩] : List ByteArray).getD s.cl.toNat ByteArray.empty); rw [hx]; rfl⟩
    · exact ⟨1, hx, by decide, by decide, by show _ = some (([⟨#[110, 111, 110, 101]⟩, ⟨#[108, 101, 102, 116]⟩, ⟨#[114, 105, 103, 104, 116]⟩, ⟨#[98, 111, 116, 104]⟩] : List ByteArray).getD s.cl.toNat ByteArray.empty); rw [hx]; rfl⟩
    · exact ⟨2, hx, by decide, by decide, by show _ = some (([⟨#[110, 111, 110, 101]⟩, ⟨#[108, 101, 102, 116]⟩, ⟨#[114, 105, 103, 104, 116]⟩, ⟨#[98, 111, 116, 104]⟩] : List ByteArray).getD s.cl.toNat ByteArray.empty); rw [hx]; rfl⟩
    · exact ⟨3, hx, by decide, by decide, by show _ = some (([⟨#[110, 111, 110, 101]⟩, ⟨#[108, 101, 102, 116]⟩, ⟨#[114, 105, 103, 104, 116]⟩, ⟨#[98, 111, 116, 104]⟩] : List ByteArray).getD s.cl.toNat ByteArray.empty); rw [hx]; rfl⟩
  · exact absurd hw (by decide)
  · exact absurd hw (by decide)
  · exact absurd hw (by decide)
  · exact absurd hw (by decide)
  · exact absurd hw (by decide)
  · exact absurd hw (by decide)
  · exact absurd hw (by decide)
  · exact absurd hw (by decide)
  · exact absurd hw (by decide)
  · exact absurd hw (by decide)
  · have hx : s.wh = 1 ∨ s.wh = 2 ∨ s.wh = 3 ∨ s.wh = 4 ∨ s.wh = 5 := by omega
    rcases hx with hx | hx | hx | hx | hx
    · exact ⟨1, hx, by decide, by decide, by show _ = some (([ByteArray.empty, ⟨#[110, 111, 114, 109, 97, 108]⟩, ⟨#[110, 111, 119, 114, 97, 112]⟩, ⟨#[112, 114, 101]⟩, ⟨#[112, 114, 101, 45, 119, 114, 97, 112]⟩, ⟨#[112, 114, 101, 45, 108, 105, 110, 101]⟩] : List ByteArray).getD s.wh.toNat ByteArray.empty); rw [hx]; rfl⟩
    · exact ⟨2, hx, by decide, by decide, by show _ = some (([ByteArray.empty, ⟨#[110, 111, 114, 109, 97, 108]⟩, ⟨#[110, 111, 119, 114, 97, 112]⟩, ⟨#[112, 114, 101]⟩, ⟨#[112, 114, 101, 45, 119, 114, 97, 112]⟩, ⟨#[112, 114, 101, 45, 108, 105, 110, 101]⟩] : List ByteArray).getD s.wh.toNat ByteArray.empty); rw [hx]; rfl⟩
    · exact ⟨3, hx, by decide, by decide, by show _ = some (([ByteArray.empty, ⟨#[110, 111, 114, 109, 97, 108]⟩, ⟨#[110, 111, 119, 114, 97, 112]⟩, ⟨#[112, 114, 101]⟩, ⟨#[112, 114, 101, 45, 119, 114, 97, 112]⟩, ⟨#[112, 114, 101, 45, 108, 105, 110, 101]⟩] : List ByteArray).getD s.wh.toNat ByteArray.empty); rw [hx]; rfl⟩
    · exact ⟨4, hx, by decide, by decide, by show _ = some (([ByteArray.empty, ⟨#[110, 111, 114, 109, 97, 108]⟩, ⟨#[110, 111, 119, 114, 97, 112]⟩, ⟨#[112, 114, 101]⟩, ⟨#[112, 114, 101, 45, 119, 114, 97, 112]⟩, ⟨#[112, 114, 101, 45, 108, 105, 110, 101]⟩] : List ByteArray).getD s.wh.toNat ByteArray.empty); rw [hx]; rfl⟩
    · exact ⟨5, hx, by decide, by decide, by show _ = some (([ByteArray.empty, ⟨#[110, 111, 114, 109, 97, 108]⟩, ⟨#[110, 111, 119, 114, 97, 112]⟩, ⟨#[112, 114, 101]⟩, ⟨#[112, 114, 101, 45, 119, 114, 97, 112]⟩, ⟨#[112, 114, 101, 45, 108, 105, 110, 101]⟩] : List ByteArray).getD s.wh.toNat ByteArray.empty); rw [hx]; rfl⟩
  · have hx : s.al = 1 ∨ s.al = 2 ∨ s.al = 3 := by omega
    rcases hx with hx | hx | hx
    · exact ⟨1, hx, by decide, by decide, by show _ = some (([ByteArray.empty, ⟨#[108, 101, 102, 116]⟩, ⟨#[114, 105, 103, 104, 116]⟩, ⟨#[99, 101, 110, 116, 101, 114]⟩] : List ByteArray).getD s.al.toNat ByteArray.empty); rw [hx]; rfl⟩
    · exact ⟨2, hx, by decide, by decide, by show _ = some (([ByteArray.empty, ⟨#[108, 101, 102, 116]⟩, ⟨#[114, 105, 103, 104, 116]⟩, ⟨#[99, 101, 110, 116, 101, 114]⟩] : List ByteArray).getD s.al.toNat ByteArray.empty); rw [hx]; rfl⟩
    · exact ⟨3, hx, by decide, by decide, by show _ = some (([ByteArray.empty, ⟨#[108, 101, 102, 116]⟩, ⟨#[114, 105, 103, 104, 116]⟩, ⟨#[99, 101, 110, 116, 101, 114]⟩] : List ByteArray).getD s.al.toNat ByteArray.empty); rw [hx]; rfl⟩
  · exact absurd hw (by decide)
  · exact absurd hw (by decide)
  · exact absurd hw (by decide)
end Go.Proofs.YtojdmcennpgndaaGreatDoor
