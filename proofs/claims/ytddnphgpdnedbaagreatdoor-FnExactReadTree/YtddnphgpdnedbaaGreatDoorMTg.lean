/-
  The model's l4Get: what a style has by a name, for each of the eighteen names.
  The model's list of names and its lists of words.
  What the model has of a style by a name, for all eighteen names at once.
  The model's l4Text: the text of a good style.
  Which things of a good style can be told, as the model asks it.
  The model's StyleText, for every style.
-/
import Derived.Test.YtddnphgpdnedbaaGreatDoorMSb
import Derived.RegionTactic
import Derived.Deep.RegionWith
import Derived.Deep.DeepFit
import Derived.Deep.RegionHeld3
import Derived.Great.Walk
import Derived.Test.YtddnphgpdnedbaaGreatDoorMTs
namespace Go.Proofs.YtddnphgpdnedbaaGreatDoor
open Go.ChangeShapes Go.WideShapes Go.ChangeAt Go.RowKit
set_option linter.unusedVariables false

theorem l4Len_at (n : Int) (w : World) : Calls Tryz.prog 39 #[.int .i64 n] w fun e w' => e = .returned (.agg #[.bool false, .bool false, .int .i64 n]) ∧ w' = w.alloc (.cells #[.bool false, .bool false, .int .i64 n] 32) := by
  go_enter Tryz.func39, Tryz.ntmps39
  go_wp2
  exact bodyPost_ret (v := .agg #[.bool false, .bool false, .int .i64 n]) (by simp [results, Tryz.results39, go_sem]) rfl ⟨rfl, rfl⟩
set_option maxHeartbeats 4000000 in
theorem l4Get_0 (s : St) (w : World) :
    Calls Tryz.prog 42 #[.agg #[.int .i64 s.sh, .int .i64 s.fl, .int .i64 s.cl, .bool s.w.a, .bool s.w.p, .int .i64 s.w.n, .bool s.h.a, .bool s.h.p, .int .i64 s.h.n, .int .i64 s.mn, .int .i64 s.mx, .int .i64 s.mt, .bool s.mr.a, .bool s.mr.p, .int .i64 s.mr.n, .int .i64 s.mb, .bool s.ml.a, .bool s.ml.p, .int .i64 s.ml.n, .int .i64 s.bo, .int .i64 s.pa, .int .i64 s.wh, .int .i64 s.al, .int .i64 s.lh, .int .i64 s.ri, .int .i64 s.dn], .string ⟨#[115, 104, 111, 119]⟩] w fun e w' => e = .returned (.tuple #[.int .i64 s.sh, .agg #[.bool false, .bool false, .int .i64 0]]) ∧ Below w.heap.size w w' := by
  go_enter Tryz.func42, Tryz.ntmps42
  go_wp2
  exact bodyPost_ret (v := .tuple #[.int .i64 s.sh, .agg #[.bool false, .bool false, .int .i64 0]]) (by simp [results, Tryz.results42, go_sem]) rfl ⟨rfl, (by repeat (first | exact Below.refl _ _ | refine Below.drew ?_ | refine Below.setCell ?_ (by first | (simp; done) | (simp; omega)) _ | refine Below.alloc ?_ (by first | (simp; done) | (simp; omega)) _))⟩
set_option maxHeartbeats 4000000 in
theorem l4Get_1 (s : St) (w : World) :
    Calls Tryz.prog 42 #[.agg #[.int .i64 s.sh, .int .i64 s.fl, .int .i64 s.cl, .bool s.w.a, .bool s.w.p, .int .i64 s.w.n, .bool s.h.a, .bool s.h.p, .int .i64 s.h.n, .int .i64 s.mn, .int .i64 s.mx, .int .i64 s.mt, .bool s.mr.a, .bool s.mr.p, .int .i64 s.mr.n, .int .i64 s.mb, .bool s.ml.a, .bool s.ml.p, .int .i64 s.ml.n, .int .i64 s.bo, .int .i64 s.pa, .int .i64 s.wh, .int .i64 s.al, .int .i64 s.lh, .int .i64 s.ri, .int .i64 s.dn], .string ⟨#[102, 108, 111, 97, 116]⟩] w fun e w' => e = .returned (.tuple #[.int .i64 s.fl, .agg #[.bool false, .bool false, .int .i64 0]]) ∧ Below w.heap.size w w' := by
  go_enter Tryz.func42, Tryz.ntmps42
  go_wp2
  exact bodyPost_ret (v := .tuple #[.int .i64 s.fl, .agg #[.bool false, .bool false, .int .i64 0]]) (by simp [results, Tryz.results42, go_sem]) rfl ⟨rfl, (by repeat (first | exact Below.refl _ _ | refine Below.drew ?_ | refine Below.setCell ?_ (by first | (simp; done) | (simp; omega)) _ | refine Below.alloc ?_ (by first | (simp; done) | (simp; omega)) _))⟩
set_option maxHeartbeats 4000000 in
theorem l4Get_2 (s : St) (w : World) :
    Calls Tryz.prog 42 #[.agg #[.int .i64 s.sh, .int .i64 s.fl, .int .i64 s.cl, .bool s.w.a, .bool s.w.p, .int .i64 s.w.n, .bool s.h.a, .bool s.h.p, .int .i64 s.h.n, .int .i64 s.mn, .int .i64 s.mx, .int .i64 s.mt, .bool s.mr.a, .bool s.mr.p, .int .i64 s.mr.n, .int .i64 s.mb, .bool s.ml.a, .bool s.ml.p, .int .i64 s.ml.n, .int .i64 s.bo, .int .i64 s.pa, .int .i64 s.wh, .int .i64 s.al, .int .i64 s.lh, .int .i64 s.ri, .int .i64 s.dn], .string ⟨#[99, 108, 101, 97, 114]⟩] w fun e w' => e = .returned (.tuple #[.int .i64 s.cl, .agg #[.bool false, .bool false, .int .i64 0]]) ∧ Below w.heap.size w w' := by
  go_enter Tryz.func42, Tryz.ntmps42
  go_wp2
  exact bodyPost_ret (v := .tuple #[.int .i64 s.cl, .agg #[.bool false, .bool false, .int .i64 0]]) (by simp [results, Tryz.results42, go_sem]) rfl ⟨rfl, (by repeat (first | exact Below.refl _ _ | refine Below.drew ?_ | refine Below.setCell ?_ (by first | (simp; done) | (simp; omega)) _ | refine Below.alloc ?_ (by first | (simp; done) | (simp; omega)) _))⟩
set_option maxHeartbeats 4000000 in
theorem l4Get_3 (s : St) (w : World) :
    Calls Tryz.prog 42 #[.agg #[.int .i64 s.sh, .int .i64 s.fl, .int .i64 s.cl, .bool s.w.a, .bool s.w.p, .int .i64 s.w.n, .bool s.h.a, .bool s.h.p, .int .i64 s.h.n, .int .i64 s.mn, .int .i64 s.mx, .int .i64 s.mt, .bool s.mr.a, .bool s.mr.p, .int .i64 s.mr.n, .int .i64 s.mb, .bool s.ml.a, .bool s.ml.p, .int .i64 s.ml.n, .int .i64 s.bo, .int .i64 s.pa, .int .i64 s.wh, .int .i64 s.al, .int .i64 s.lh, .int .i64 s.ri, .int .i64 s.dn], .string ⟨#[119, 105, 100, 116, 104]⟩] w fun e w' => e = .returned (.tuple #[.int .i64 0, .agg #[.bool s.w.a, .bool s.w.p, .int .i64 s.w.n]]) ∧ Below w.heap.size w w' := by
  go_enter Tryz.func42, Tryz.ntmps42
  go_wp2_with fail
  go_region_with (fail)
  all_goals
    go_wp2
    exact bodyPost_ret (v := .tuple #[.int .i64 0, .agg #[.bool s.w.a, .bool s.w.p, .int .i64 s.w.n]]) (by simp [results, Tryz.results42, go_sem]) rfl ⟨rfl, (by repeat (first | exact Below.refl _ _ | refine Below.drew ?_ | refine Below.setCell ?_ (by first | (simp; done) | (simp; omega)) _ | refine Below.alloc ?_ (by first | (simp; done) | (simp; omega)) _))⟩
set_option maxHeartbeats 4000000 in
theorem l4Get_4 (s : St) (w : World) :
    Calls Tryz.prog 42 #[.agg #[.int .i64 s.sh, .int .i64 s.fl, .int .i64 s.cl, .bool s.w.a, .bool s.w.p, .int .i64 s.w.n, .bool s.h.a, .bool s.h.p, .int .i64 s.h.n, .int .i64 s.mn, .int .i64 s.mx, .int .i64 s.mt, .bool s.mr.a, .bool s.mr.p, .int .i64 s.mr.n, .int .i64 s.mb, .bool s.ml.a, .bool s.ml.p, .int .i64 s.ml.n, .int .i64 s.bo, .int .i64 s.pa, .int .i64 s.wh, .int .i64 s.al, .int .i64 s.lh, .int .i64 s.ri, .int .i64 s.dn], .string ⟨#[104, 101, 105, 103, 104, 116]⟩] w fun e w' => e = .returned (.tuple #[.int .i64 0, .agg #[.bool s.h.a, .bool s.h.p, .int .i64 s.h.n]]) ∧ Below w.heap.size w w' := by
  go_enter Tryz.func42, Tryz.ntmps42
  go_wp2_with fail
  go_region_with (fail)
  all_goals
    go_wp2
    exact bodyPost_ret (v := .tuple #[.int .i64 0, .agg #[.bool s.h.a, .bool s.h.p, .int .i64 s.h.n]]) (by simp [results, Tryz.results42, go_sem]) rfl ⟨rfl, (by repeat (first | exact Below.refl _ _ | refine Below.drew ?_ | refine Below.setCell ?_ (by first | (simp; done) | (simp; omega)) _ | refine Below.alloc ?_ (by first | (simp; done) | (simp; omega)) _))⟩
set_option maxHeartbeats 4000000 in
theorem l4Get_5 (s : St) (w : World) :
    Calls Tryz.prog 42 #[.agg #[.int .i64 s.sh, .int .i64 s.fl, .int .i64 s.cl, .bool s.w.a, .bool s.w.p, .int .i64 s.w.n, .bool s.h.a, .bool s.h.p, .int .i64 s.h.n, .int .i64 s.mn, .int .i64 s.mx, .int .i64 s.mt, .bool s.mr.a, .bool s.mr.p, .int .i64 s.mr.n, .int .i64 s.mb, .bool s.ml.a, .bool s.ml.p, .int .i64 s.ml.n, .int .i64 s.bo, .int .i64 s.pa, .int .i64 s.wh, .int .i64 s.al, .int .i64 s.lh, .int .i64 s.ri, .int .i64 s.dn], .string ⟨#[109, 105, 110, 45, 119, 105, 100, 116, 104]⟩] w fun e w' => e = .returned (.tuple #[.int .i64 0, .agg #[.bool false, .bool false, .int .i64 s.mn]]) ∧ Below w.heap.size w w' := by
  go_enter Tryz.func42, Tryz.ntmps42
  go_wp2_with (go_at_call 39; refine (l4Len_at _ _).mono ?_; rintro e w1 ⟨rfl, rfl⟩)
  exact bodyPost_ret (v := .tuple #[.int .i64 0, .agg #[.bool false, .bool false, .int .i64 s.mn]]) (by simp [results, Tryz.results42, go_sem]) rfl ⟨rfl, (by repeat (first | exact Below.refl _ _ | refine Below.drew ?_ | refine Below.setCell ?_ (by first | (simp; done) | (simp; omega)) _ | refine Below.alloc ?_ (by first | (simp; done) | (simp; omega)) _))⟩
set_option maxHeartbeats 4000000 in
theorem l4Get_6 (s : St) (w : World) :
    Calls Tryz.prog 42 #[.agg #[.int .i64 s.sh, .int .i64 s.fl, .int .i64 s.cl, .bool s.w.a, .bool s.w.p, .int .i64 s.w.n, .bool s.h.a, .bool s.h.p, .int .i64 s.h.n, .int .i64 s.mn, .int .i64 s.mx, .int .i64 s.mt, .bool s.mr.a, .bool s.mr.p, .int .i64 s.mr.n, .int .i64 s.mb, .bool s.ml.a, .bool s.ml.p, .int .i64 s.ml.n, .int .i64 s.bo, .int .i64 s.pa, .int .i64 s.wh, .int .i64 s.al, .int .i64 s.lh, .int .i64 s.ri, .int .i64 s.dn], .string ⟨#[109, 97, 120, 45, 119, 105, 100, 116, 104]⟩] w fun e w' => e = .returned (.tuple #[.int .i64 0, .agg #[.bool false, .bool false, .int .i64 s.mx]]) ∧ Below w.heap.size w w' := by
  go_enter Tryz.func42, Tryz.ntmps42
  go_wp2_with (go_at_call 39; refine (l4Len_at _ _).mono ?_; rintro e w1 ⟨rfl, rfl⟩)
  exact bodyPost_ret (v := .tuple #[.int .i64 0, .agg #[.bool false, .bool false, .int .i64 s.mx]]) (by simp [results, Tryz.results42, go_sem]) rfl ⟨rfl, (by repeat (first | exact Below.refl _ _ | refine Below.drew ?_ | refine Below.setCell ?_ (by first | (simp; done) | (simp; omega)) _ | refine Below.alloc ?_ (by first | (simp; done) | (simp; omega)) _))⟩
set_option maxHeartbeats 4000000 in
theorem l4Get_7 (s : St) (w : World) :
    Calls Tryz.prog 42 #[.agg #[.int .i64 s.sh, .int .i64 s.fl, .int .i64 s.cl, .bool s.w.a, .bool s.w.p, .int .i64 s.w.n, .bool s.h.a, .bool s.h.p, .int .i64 s.h.n, .int .i64 s.mn, .int .i64 s.mx, .int .i64 s.mt, .bool s.mr.a, .bool s.mr.p, .int .i64 s.mr.n, .int .i64 s.mb, .bool s.ml.a, .bool s.ml.p, .int .i64 s.ml.n, .int .i64 s.bo, .int .i64 s.pa, .int .i64 s.wh, .int .i64 s.al, .int .i64 s.lh, .int .i64 s.ri, .int .i64 s.dn], .string ⟨#[109, 97, 114, 103, 105, 110, 45, 116, 111, 112]⟩] w fun e w' => e = .returned (.tuple #[.int .i64 0, .agg #[.bool false, .bool false, .int .i64 s.mt]]) ∧ Below w.heap.size w w' := by
  go_enter Tryz.func42, Tryz.ntmps42
  go_wp2_with (go_at_call 39; refine (l4Len_at _ _).mono ?_; rintro e w1 ⟨rfl, rfl⟩)
  exact bodyPost_ret (v := .tuple #[.int .i64 0, .agg #[.bool false, .bool false, .int .i64 s.mt]]) (by simp [results, Tryz.results42, go_sem]) rfl ⟨rfl, (by repeat (first | exact Below.refl _ _ | refine Below.drew ?_ | refine Below.setCell ?_ (by first | (simp; done) | (simp; omega)) _ | refine Below.alloc ?_ (by first | (simp; done) | (simp; omega)) _))⟩
set_option maxHeartbeats 4000000 in
theorem l4Get_8 (s : St) (w : World) :
    Calls Tryz.prog 42 #[.agg #[.int .i64 s.sh, .int .i64 s.fl, .int .i64 s.cl, .bool s.w.a, .bool s.w.p, .int .i64 s.w.n, .bool s.h.a, .bool s.h.p, .int .i64 s.h.n, .int .i64 s.mn, .int .i64 s.mx, .int .i64 s.mt, .bool s.mr.a, .bool s.mr.p, .int .i64 s.mr.n, .int .i64 s.mb, .bool s.ml.a, .bool s.ml.p, .int .i64 s.ml.n, .int .i64 s.bo, .int .i64 s.pa, .int .i64 s.wh, .int .i64 s.al, .int .i64 s.lh, .int .i64 s.ri, .int .i64 s.dn], .string ⟨#[109, 97, 114, 103, 105, 110, 45, 114, 105, 103, 104, 116]⟩] w fun e w' => e = .returned (.tuple #[.int .i64 0, .agg #[.bool s.mr.a, .bool s.mr.p, .int .i64 s.mr.n]]) ∧ Below w.heap.size w w' := by
  go_enter Tryz.func42, Tryz.ntmps42
  go_wp2_with fail
  go_region_with (fail)
  all_goals
    go_wp2
    exact bodyPost_ret (v := .tuple #[.int .i64 0, .agg #[.bool s.mr.a, .bool s.mr.p, .int .i64 s.mr.n]]) (by simp [results, Tryz.results42, go_sem]) rfl ⟨rfl, (by repeat (first | exact Below.refl _ _ | refine Below.drew ?_ | refine Below.setCell ?_ (by first | (simp; done) | (simp; omega)) _ | refine Below.alloc ?_ (by first | (simp; done) | (simp; omega)) _))⟩
set_option maxHeartbeats 4000000 in
theorem l4Get_9 (s : St) (w : World) :
    Calls Tryz.prog 42 #[.agg #[.int .i64 s.sh, .int .i64 s.fl, .int .i64 s.cl, .bool s.w.a, .bool s.w.p, .int .i64 s.w.n, .bool s.h.a, .bool s.h.p, .int .i64 s.h.n, .int .i64 s.mn, .int .i64 s.mx, .int .i64 s.mt, .bool s.mr.a, .bool s.mr.p, .int .i64 s.mr.n, .int .i64 s.mb, .bool s.ml.a, .bool s.ml.p, .int .i64 s.ml.n, .int .i64 s.bo, .int .i64 s.pa, .int .i64 s.wh, .int .i64 s.al, .int .i64 s.lh, .int .i64 s.ri, .int .i64 s.dn], .string ⟨#[109, 97, 114, 103, 105, 110, 45, 98, 111, 116, 116, 111, 109]⟩] w fun e w' => e = .returned (.tuple #[.int .i64 0, .agg #[.bool false, .bool false, .int .i64 s.mb]]) ∧ Below w.heap.size w w' := by
  go_enter Tryz.func42, Tryz.ntmps42
  go_wp2_with (go_at_call 39; refine (l4Len_at _ _).mono ?_; rintro e w1 ⟨rfl, rfl⟩)
  exact bodyPost_ret (v := .tuple #[.int .i64 0, .agg #[.bool false, .bool false, .int .i64 s.mb]]) (by simp [results, Tryz.results42, go_sem]) rfl ⟨rfl, (by repeat (first | exact Below.refl _ _ | refine Below.drew ?_ | refine Below.setCell ?_ (by first | (simp; done) | (simp; omega)) _ | refine Below.alloc ?_ (by first | (simp; done) | (simp; omega)) _))⟩
set_option maxHeartbeats 4000000 in
theorem l4Get_10 (s : St) (w : World) :
    Calls Tryz.prog 42 #[.agg #[.int .i64 s.sh, .int .i64 s.fl, .int .i64 s.cl, .bool s.w.a, .bool s.w.p, .int .i64 s.w.n, .bool s.h.a, .bool s.h.p, .int .i64 s.h.n, .int .i64 s.mn, .int .i64 s.mx, .int .i64 s.mt, .bool s.mr.a, .bool s.mr.p, .int .i64 s.mr.n, .int .i64 s.mb, .bool s.ml.a, .bool s.ml.p, .int .i64 s.ml.n, .int .i64 s.bo, .int .i64 s.pa, .int .i64 s.wh, .int .i64 s.al, .int .i64 s.lh, .int .i64 s.ri, .int .i64 s.dn], .string ⟨#[109, 97, 114, 103, 105, 110, 45, 108, 101, 102, 116]⟩] w fun e w' => e = .returned (.tuple #[.int .i64 0, .agg #[.bool s.ml.a, .bool s.ml.p, .int .i64 s.ml.n]]) ∧ Below w.heap.size w w' := by
  go_enter Tryz.func42, Tryz.ntmps42
  go_wp2_with fail
  go_region_with (fail)
  all_goals
    go_wp2
    exact bodyPost_ret (v := .tuple #[.int .i64 0, .agg #[.bool s.ml.a, .bool s.ml.p, .int .i64 s.ml.n]]) (by simp [results, Tryz.results42, go_sem]) rfl ⟨rfl, (by repeat (first | exact Below.refl _ _ | refine Below.drew ?_ | refine Below.setCell ?_ (by first | (simp; done) | (simp; omega)) _ | refine Below.alloc ?_ (by first | (simp; done) | (simp; omega)) _))⟩
set_option maxHeartbeats 4000000 in
theorem l4Get_11 (s : St) (w : World) :
    Calls Tryz.prog 42 #[.agg #[.int .i64 s.sh, .int .i64 s.fl, .int .i64 s.cl, .bool s.w.a, .bool s.w.p, .int .i64 s.w.n, .bool s.h.a, .bool s.h.p, .int .i64 s.h.n, .int .i64 s.mn, .int .i64 s.mx, .int .i64 s.mt, .bool s.mr.a, .bool s.mr.p, .int .i64 s.mr.n, .int .i64 s.mb, .bool s.ml.a, .bool s.ml.p, .int .i64 s.ml.n, .int .i64 s.bo, .int .i64 s.pa, .int .i64 s.wh, .int .i64 s.al, .int .i64 s.lh, .int .i64 s.ri, .int .i64 s.dn], .string ⟨#[98, 111, 114, 100, 101, 114]⟩] w fun e w' => e = .returned (.tuple #[.int .i64 0, .agg #[.bool false, .bool false, .int .i64 s.bo]]) ∧ Below w.heap.size w w' := by
  go_enter Tryz.func42, Tryz.ntmps42
  go_wp2_with (go_at_call 39; refine (l4Len_at _ _).mono ?_; rintro e w1 ⟨rfl, rfl⟩)
  exact bodyPost_ret (v := .tuple #[.int .i64 0, .agg #[.bool false, .bool false, .int .i64 s.bo]]) (by simp [results, Tryz.results42, go_sem]) rfl ⟨rfl, (by repeat (first | exact Below.refl _ _ | refine Below.drew ?_ | refine Below.setCell ?_ (by first | (simp; done) | (simp; omega)) _ | refine Below.alloc ?_ (by first | (simp; done) | (simp; omega)) _))⟩
set_option maxHeartbeats 4000000 in
theorem l4Get_12 (s : St) (w : World) :
    Calls Tryz.prog 42 #[.agg #[.int .i64 s.sh, .int .i64 s.fl, .int .i64 s.cl, .bool s.w.a, .bool s.w.p, .int .i64 s.w.n, .bool s.h.a, .bool s.h.p, .int .i64 s.h.n, .int .i64 s.mn, .int .i64 s.mx, .int .i64 s.mt, .bool s.mr.a, .bool s.mr.p, .int .i64 s.mr.n, .int .i64 s.mb, .bool s.ml.a, .bool s.ml.p, .int .i64 s.ml.n, .int .i64 s.bo, .int .i64 s.pa, .int .i64 s.wh, .int .i64 s.al, .int .i64 s.lh, .int .i64 s.ri, .int .i64 s.dn], .string ⟨#[112, 97, 100, 100, 105, 110, 103]⟩] w fun e w' => e = .returned (.tuple #[.int .i64 0, .agg #[.bool false, .bool false, .int .i64 s.pa]]) ∧ Below w.heap.size w w' := by
  go_enter Tryz.func42, Tryz.ntmps42
  go_wp2_with (go_at_call 39; refine (l4Len_at _ _).mono ?_; rintro e w1 ⟨rfl, rfl⟩)
  exact bodyPost_ret (v := .tuple #[.int .i64 0, .agg #[.bool false, .bool false, .int .i64 s.pa]]) (by simp [results, Tryz.results42, go_sem]) rfl ⟨rfl, (by repeat (first | exact Below.refl _ _ | refine Below.drew ?_ | refine Below.setCell ?_ (by first | (simp; done) | (simp; omega)) _ | refine Below.alloc ?_ (by first | (simp; done) | (simp; omega)) _))⟩
set_option maxHeartbeats 4000000 in
theorem l4Get_13 (s : St) (w : World) :
    Calls Tryz.prog 42 #[.agg #[.int .i64 s.sh, .int .i64 s.fl, .int .i64 s.cl, .bool s.w.a, .bool s.w.p, .int .i64 s.w.n, .bool s.h.a, .bool s.h.p, .int .i64 s.h.n, .int .i64 s.mn, .int .i64 s.mx, .int .i64 s.mt, .bool s.mr.a, .bool s.mr.p, .int .i64 s.mr.n, .int .i64 s.mb, .bool s.ml.a, .bool s.ml.p, .int .i64 s.ml.n, .int .i64 s.bo, .int .i64 s.pa, .int .i64 s.wh, .int .i64 s.al, .int .i64 s.lh, .int .i64 s.ri, .int .i64 s.dn], .string ⟨#[119, 104, 105, 116, 101]⟩] w fun e w' => e = .returned (.tuple #[.int .i64 s.wh, .agg #[.bool false, .bool false, .int .i64 0]]) ∧ Below w.heap.size w w' := by
  go_enter Tryz.func42, Tryz.ntmps42
  go_wp2
  exact bodyPost_ret (v := .tuple #[.int .i64 s.wh, .agg #[.bool false, .bool false, .int .i64 0]]) (by simp [results, Tryz.results42, go_sem]) rfl ⟨rfl, (by repeat (first | exact Below.refl _ _ | refine Below.drew ?_ | refine Below.setCell ?_ (by first | (simp; done) | (simp; omega)) _ | refine Below.alloc ?_ (by first | (simp; done) | (simp; omega)) _))⟩
set_option maxHeartbeats 4000000 in
theorem l4Get_14 (s : St) (w : World) :
    Calls Tryz.prog 42 #[.agg #[.int .i64 s.sh, .int .i64 s.fl, .int .i64 s.cl, .bool s.w.a, .bool s.w.p, .int .i64 s.w.n, .bool s.h.a, .bool s.h.p, .int .i64 s.h.n, .int .i64 s.mn, .int .i64 s.mx, .int .i64 s.mt, .bool s.mr.a, .bool s.mr.p, .int .i64 s.mr.n, .int .i64 s.mb, .bool s.ml.a, .bool s.ml.p, .int .i64 s.ml.n, .int .i64 s.bo, .int .i64 s.pa, .int .i64 s.wh, .int .i64 s.al, .int .i64 s.lh, .int .i64 s.ri, .int .i64 s.dn], .string ⟨#[97, 108, 105, 103, 110]⟩] w fun e w' => e = .returned (.tuple #[.int .i64 s.al, .agg #[.bool false, .bool false, .int .i64 0]]) ∧ Below w.heap.size w w' := by
  go_enter Tryz.func42, Tryz.ntmps42
  go_wp2
  exact bodyPost_ret (v := .tuple #[.int .i64 s.al, .agg #[.bool false, .bool false, .int .i64 0]]) (by simp [results, Tryz.results42, go_sem]) rfl ⟨rfl, (by repeat (first | exact Below.refl _ _ | refine Below.drew ?_ | refine Below.setCell ?_ (by first | (simp; done) | (simp; omega)) _ | refine Below.alloc ?_ (by first | (simp; done) | (simp; omega)) _))⟩
set_option maxHeartbeats 4000000 in
theorem l4Get_15 (s : St) (w : World) :
    Calls Tryz.prog 42 #[.agg #[.int .i64 s.sh, .int .i64 s.fl, .int .i64 s.cl, .bool s.w.a, .bool s.w.p, .int .i64 s.w.n, .bool s.h.a, .bool s.h.p, .int .i64 s.h.n, .int .i64 s.mn, .int .i64 s.mx, .int .i64 s.mt, .bool s.mr.a, .bool s.mr.p, .int .i64 s.mr.n, .int .i64 s.mb, .bool s.ml.a, .bool s.ml.p, .int .i64 s.ml.n, .int .i64 s.bo, .int .i64 s.pa, .int .i64 s.wh, .int .i64 s.al, .int .i64 s.lh, .int .i64 s.ri, .int .i64 s.dn], .string ⟨#[108, 105, 110, 101, 45, 104, 101, 105, 103, 104, 116]⟩] w fun e w' => e = .returned (.tuple #[.int .i64 0, .agg #[.bool false, .bool false, .int .i64 s.lh]]) ∧ Below w.heap.size w w' := by
  go_enter Tryz.func42, Tryz.ntmps42
  go_wp2_with (go_at_call 39; refine (l4Len_at _ _).mono ?_; rintro e w1 ⟨rfl, rfl⟩)
  exact bodyPost_ret (v := .tuple #[.int .i64 0, .agg #[.bool false, .bool false, .int .i64 s.lh]]) (by simp [results, Tryz.results42, go_sem]) rfl ⟨rfl, (by repeat (first | exact Below.refl _ _ | refine Below.drew ?_ | refine Below.setCell ?_ (by first | (simp; done) | (simp; omega)) _ | refine Below.alloc ?_ (by first | (simp; done) | (simp; omega)) _))⟩
set_option maxHeartbeats 4000000 in
theorem l4Get_16 (s : St) (w : World) :
    Calls Tryz.prog 42 #[.agg #[.int .i64 s.sh, .int .i64 s.fl, .int .i64 s.cl, .bool s.w.a, .bool s.w.p, .int .i64 s.w.n, .bool s.h.a, .bool s.h.p, .int .i64 s.h.n, .int .i64 s.mn, .int .i64 s.mx, .int .i64 s.mt, .bool s.mr.a, .bool s.mr.p, .int .i64 s.mr.n, .int .i64 s.mb, .bool s.ml.a, .bool s.ml.p, .int .i64 s.ml.n, .int .i64 s.bo, .int .i64 s.pa, .int .i64 s.wh, .int .i64 s.al, .int .i64 s.lh, .int .i64 s.ri, .int .i64 s.dn], .string ⟨#[114, 105, 103, 104, 116]⟩] w fun e w' => e = .returned (.tuple #[.int .i64 0, .agg #[.bool false, .bool false, .int .i64 s.ri]]) ∧ Below w.heap.size w w' := by
  go_enter Tryz.func42, Tryz.ntmps42
  go_wp2_with (go_at_call 39; refine (l4Len_at _ _).mono ?_; rintro e w1 ⟨rfl, rfl⟩)
  exact bodyPost_ret (v := .tuple #[.int .i64 0, .agg #[.bool false, .bool false, .int .i64 s.ri]]) (by simp [results, Tryz.results42, go_sem]) rfl ⟨rfl, (by repeat (first | exact Below.refl _ _ | refine Below.drew ?_ | refine Below.setCell ?_ (by first | (simp; done) | (simp; omega)) _ | refine Below.alloc ?_ (by first | (simp; done) | (simp; omega)) _))⟩
set_option maxHeartbeats 4000000 in
theorem l4Get_17 (s : St) (w : World) :
    Calls Tryz.prog 42 #[.agg #[.int .i64 s.sh, .int .i64 s.fl, .int .i64 s.cl, .bool s.w.a, .bool s.w.p, .int .i64 s.w.n, .bool s.h.a, .bool s.h.p, .int .i64 s.h.n, .int .i64 s.mn, .int .i64 s.mx, .int .i64 s.mt, .bool s.mr.a, .bool s.mr.p, .int .i64 s.mr.n, .int .i64 s.mb, .bool s.ml.a, .bool s.ml.p, .int .i64 s.ml.n, .int .i64 s.bo, .int .i64 s.pa, .int .i64 s.wh, .int .i64 s.al, .int .i64 s.lh, .int .i64 s.ri, .int .i64 s.dn], .string ⟨#[100, 111, 119, 110]⟩] w fun e w' => e = .returned (.tuple #[.int .i64 0, .agg #[.bool false, .bool false, .int .i64 s.dn]]) ∧ Below w.heap.size w w' := by
  go_enter Tryz.func42, Tryz.ntmps42
  go_wp2_with (go_at_call 39; refine (l4Len_at _ _).mono ?_; rintro e w1 ⟨rfl, rfl⟩)
  exact bodyPost_ret (v := .tuple #[.int .i64 0, .agg #[.bool false, .bool false, .int .i64 s.dn]]) (by simp [results, Tryz.results42, go_sem]) rfl ⟨rfl, (by repeat (first | exact Below.refl _ _ | refine Below.drew ?_ | refine Below.setCell ?_ (by first | (simp; done) | (simp; omega)) _ | refine Below.alloc ?_ (by first | (simp; done) | (simp; omega)) _))⟩
end Go.Proofs.YtddnphgpdnedbaaGreatDoor

namespace Go.Proofs.YtddnphgpdnedbaaGreatDoor
open Go.ChangeShapes Go.WideShapes Go.ChangeAt Go.RowKit
set_option linter.unusedVariables false

def nameCells : Array Value := #[.string ⟨#[115, 104, 111, 119]⟩, .string ⟨#[102, 108, 111, 97, 116]⟩, .string ⟨#[99, 108, 101, 97, 114]⟩, .string ⟨#[119, 105, 100, 116, 104]⟩, .string ⟨#[104, 101, 105, 103, 104, 116]⟩, .string ⟨#[109, 105, 110, 45, 119, 105, 100, 116, 104]⟩, .string ⟨#[109, 97, 120, 45, 119, 105, 100, 116, 104]⟩, .string ⟨#[109, 97, 114, 103, 105, 110, 45, 116, 111, 112]⟩, .string ⟨#[109, 97, 114, 103, 105, 110, 45, 114, 105, 103, 104, 116]⟩, .string ⟨#[109, 97, 114, 103, 105, 110, 45, 98, 111, 116, 116, 111, 109]⟩, .string ⟨#[109, 97, 114, 103, 105, 110, 45, 108, 101, 102, 116]⟩, .string ⟨#[98, 111, 114, 100, 101, 114]⟩, .string ⟨#[112, 97, 100, 100, 105, 110, 103]⟩, .string ⟨#[119, 104, 105, 116, 101]⟩, .string ⟨#[97, 108, 105, 103, 110]⟩, .string ⟨#[108, 105, 110, 101, 45, 104, 101, 105, 103, 104, 116]⟩, .string ⟨#[114, 105, 103, 104, 116]⟩, .string ⟨#[100, 111, 119, 110]⟩]
set_option maxRecDepth 100000 in
set_option maxHeartbeats 2000000 in
theorem l4Names_at (w : World) : Calls Tryz.prog 41 #[] w fun e w' => e = .returned (.slice (some ⟨w.heap.size, 0, none⟩) 18 18) ∧ w' = w.alloc (.cells nameCells 9) := by
  go_enter Tryz.func41, Tryz.ntmps41
  go_wp2_with ((with_reducible show wpList _ _ _ (⟨_, Op.buildSlice _ _ _, _, _, _, _⟩ :: _) _ _); refine Great.wpList_buildSliceTo rfl 70 9 18 _ rfl w.heap.size rfl _ rfl Tryz.underlying70 nameCells (by kernel_rfl) ?_)
  go_ret
  exact ⟨rfl, rfl⟩

theorem l4Words_0 (w : World) : Calls Tryz.prog 36 #[.string ⟨#[115, 104, 111, 119]⟩] w fun e w' => e = .returned (.slice (some ⟨w.heap.size, 0, none⟩) 4 4) ∧ w' = w.alloc (.cells #[.string ⟨#[]⟩, .string ⟨#[98, 108, 111, 99, 107]⟩, .string ⟨#[105, 110, 108, 105, 110, 101]⟩, .string ⟨#[110, 111, 110, 101]⟩] 9) := by
  go_enter Tryz.func36, Tryz.ntmps36
  go_wp2
  go_ret
  exact ⟨rfl, rfl⟩
theorem l4Words_1 (w : World) : Calls Tryz.prog 36 #[.string ⟨#[102, 108, 111, 97, 116]⟩] w fun e w' => e = .returned (.slice (some ⟨w.heap.size, 0, none⟩) 3 3) ∧ w' = w.alloc (.cells #[.string ⟨#[110, 111, 110, 101]⟩, .string ⟨#[108, 101, 102, 116]⟩, .string ⟨#[114, 105, 103, 104, 116]⟩] 9) := by
  go_enter Tryz.func36, Tryz.ntmps36
  go_wp2
  go_ret
  exact ⟨rfl, rfl⟩
theorem l4Words_2 (w : World) : Calls Tryz.prog 36 #[.string ⟨#[99, 108, 101, 97, 114]⟩] w fun e w' => e = .returned (.slice (some ⟨w.heap.size, 0, none⟩) 4 4) ∧ w' = w.alloc (.cells #[.string ⟨#[110, 111, 110, 101]⟩, .string ⟨#[108, 101, 102, 116]⟩, .string ⟨#[114, 105, 103, 104, 116]⟩, .string ⟨#[98, 111, 116, 104]⟩] 9) := by
  go_enter Tryz.func36, Tryz.ntmps36
  go_wp2
  go_ret
  exact ⟨rfl, rfl⟩
theorem l4Words_3 (w : World) : Calls Tryz.prog 36 #[.string ⟨#[119, 105, 100, 116, 104]⟩] w fun e w' => e = .returned (.slice none 0 0) ∧ w' = w := by
  go_enter Tryz.func36, Tryz.ntmps36
  go_wp2
  go_ret
  exact ⟨rfl, rfl⟩
theorem l4Words_4 (w : World) : Calls Tryz.prog 36 #[.string ⟨#[104, 101, 105, 103, 104, 116]⟩] w fun e w' => e = .returned (.slice none 0 0) ∧ w' = w := by
  go_enter Tryz.func36, Tryz.ntmps36
  go_wp2
  go_ret
  exact ⟨rfl, rfl⟩
theorem l4Words_5 (w : World) : Calls Tryz.prog 36 #[.string ⟨#[109, 105, 110, 45, 119, 105, 100, 116, 104]⟩] w fun e w' => e = .returned (.slice none 0 0) ∧ w' = w := by
  go_enter Tryz.func36, Tryz.ntmps36
  go_wp2
  go_ret
  exact ⟨rfl, rfl⟩
theorem l4Words_6 (w : World) : Calls Tryz.prog 36 #[.string ⟨#[109, 97, 120, 45, 119, 105, 100, 116, 104]⟩] w fun e w' => e = .returned (.slice none 0 0) ∧ w' = w := by
  go_enter Tryz.func36, Tryz.ntmps36
  go_wp2
  go_ret
  exact ⟨rfl, rfl⟩
theorem l4Words_7 (w : World) : Calls Tryz.prog 36 #[.string ⟨#[109, 97, 114, 103, 105, 110, 45, 116, 111, 112]⟩] w fun e w' => e = .returned (.slice none 0 0) ∧ w' = w := by
  go_enter Tryz.func36, Tryz.ntmps36
  go_wp2
  go_ret
  exact ⟨rfl, rfl⟩
theorem l4Words_8 (w : World) : Calls Tryz.prog 36 #[.string ⟨#[109, 97, 114, 103, 105, 110, 45, 114, 105, 103, 104, 116]⟩] w fun e w' => e = .returned (.slice none 0 0) ∧ w' = w := by
  go_enter Tryz.func36, Tryz.ntmps36
  go_wp2
  go_ret
  exact ⟨rfl, rfl⟩
theorem l4Words_9 (w : World) : Calls Tryz.prog 36 #[.string ⟨#[109, 97, 114, 103, 105, 110, 45, 98, 111, 116, 116, 111, 109]⟩] w fun e w' => e = .returned (.slice none 0 0) ∧ w' = w := by
  go_enter Tryz.func36, Tryz.ntmps36
  go_wp2
  go_ret
  exact ⟨rfl, rfl⟩
theorem l4Words_10 (w : World) : Calls Tryz.prog 36 #[.string ⟨#[109, 97, 114, 103, 105, 110, 45, 108, 101, 102, 116]⟩] w fun e w' => e = .returned (.slice none 0 0) ∧ w' = w := by
  go_enter Tryz.func36, Tryz.ntmps36
  go_wp2
  go_ret
  exact ⟨rfl, rfl⟩
theorem l4Words_11 (w : World) : Calls Tryz.prog 36 #[.string ⟨#[98, 111, 114, 100, 101, 114]⟩] w fun e w' => e = .returned (.slice none 0 0) ∧ w' = w := by
  go_enter Tryz.func36, Tryz.ntmps36
  go_wp2
  go_ret
  exact ⟨rfl, rfl⟩
theorem l4Words_12 (w : World) : Calls Tryz.prog 36 #[.string ⟨#[112, 97, 100, 100, 105, 110, 103]⟩] w fun e w' => e = .returned (.slice none 0 0) ∧ w' = w := by
  go_enter Tryz.func36, Tryz.ntmps36
  go_wp2
  go_ret
  exact ⟨rfl, rfl⟩
theorem l4Words_13 (w : World) : Calls Tryz.prog 36 #[.string ⟨#[119, 104, 105, 116, 101]⟩] w fun e w' => e = .returned (.slice (some ⟨w.heap.size, 0, none⟩) 6 6) ∧ w' = w.alloc (.cells #[.string ⟨#[]⟩, .string ⟨#[110, 111, 114, 109, 97, 108]⟩, .string ⟨#[110, 111, 119, 114, 97, 112]⟩, .string ⟨#[112, 114, 101]⟩, .string ⟨#[112, 114, 101, 45, 119, 114, 97, 112]⟩, .string ⟨#[112, 114, 101, 45, 108, 105, 110, 101]⟩] 9) := by
  go_enter Tryz.func36, Tryz.ntmps36
  go_wp2
  go_ret
  exact ⟨rfl, rfl⟩
theorem l4Words_14 (w : World) : Calls Tryz.prog 36 #[.string ⟨#[97, 108, 105, 103, 110]⟩] w fun e w' => e = .returned (.slice (some ⟨w.heap.size, 0, none⟩) 4 4) ∧ w' = w.alloc (.cells #[.string ⟨#[]⟩, .string ⟨#[108, 101, 102, 116]⟩, .string ⟨#[114, 105, 103, 104, 116]⟩, .string ⟨#[99, 101, 110, 116, 101, 114]⟩] 9) := by
  go_enter Tryz.func36, Tryz.ntmps36
  go_wp2
  go_ret
  exact ⟨rfl, rfl⟩
theorem l4Words_15 (w : World) : Calls Tryz.prog 36 #[.string ⟨#[108, 105, 110, 101, 45, 104, 101, 105, 103, 104, 116]⟩] w fun e w' => e = .returned (.slice none 0 0) ∧ w' = w := by
  go_enter Tryz.func36, Tryz.ntmps36
  go_wp2
  go_ret
  exact ⟨rfl, rfl⟩
theorem l4Words_16 (w : World) : Calls Tryz.prog 36 #[.string ⟨#[114, 105, 103, 104, 116]⟩] w fun e w' => e = .returned (.slice none 0 0) ∧ w' = w := by
  go_enter Tryz.func36, Tryz.ntmps36
  go_wp2
  go_ret
  exact ⟨rfl, rfl⟩
theorem l4Words_17 (w : World) : Calls Tryz.prog 36 #[.string ⟨#[100, 111, 119, 110]⟩] w fun e w' => e = .returned (.slice none 0 0) ∧ w' = w := by
  go_enter Tryz.func36, Tryz.ntmps36
  go_wp2
  go_ret
  exact ⟨rfl, rfl⟩

end Go.Proofs.YtddnphgpdnedbaaGreatDoor

namespace Go.Proofs.YtddnphgpdnedbaaGreatDoor
open Go.ChangeShapes Go.WideShapes Go.ChangeAt Go.RowKit
set_option linter.unusedVariables false

def getN (s : St) (k : Nat) : Int := ([s.sh, s.fl, s.cl, 0, 0, 0, 0, 0, 0, 0, 0, 0, 0, s.wh, s.al, 0, 0, 0] : List Int).getD k 0
def getZ (s : St) (k : Nat) : Sz := ([⟨false, false, 0⟩, ⟨false, false, 0⟩, ⟨false, false, 0⟩, s.w, s.h, ⟨false, false, s.mn⟩, ⟨false, false, s.mx⟩, ⟨false, false, s.mt⟩, s.mr, ⟨false, false, s.mb⟩, s.ml, ⟨false, false, s.bo⟩, ⟨false, false, s.pa⟩, ⟨false, false, 0⟩, ⟨false, false, 0⟩, ⟨false, false, s.lh⟩, ⟨false, false, s.ri⟩, ⟨false, false, s.dn⟩] : List Sz).getD k ⟨false, false, 0⟩
def isW (k : Nat) : Bool := ([true, true, true, false, false, false, false, false, false, false, false, false, false, true, true, false, false, false] : List Bool).getD k false
def wl (k : Nat) : List ByteArray := ([[⟨#[]⟩, ⟨#[98, 108, 111, 99, 107]⟩, ⟨#[105, 110, 108, 105, 110, 101]⟩, ⟨#[110, 111, 110, 101]⟩], [⟨#[110, 111, 110, 101]⟩, ⟨#[108, 101, 102, 116]⟩, ⟨#[114, 105, 103, 104, 116]⟩], [⟨#[110, 111, 110, 101]⟩, ⟨#[108, 101, 102, 116]⟩, ⟨#[114, 105, 103, 104, 116]⟩, ⟨#[98, 111, 116, 104]⟩], [], [], [], [], [], [], [], [], [], [], [⟨#[]⟩, ⟨#[110, 111, 114, 109, 97, 108]⟩, ⟨#[110, 111, 119, 114, 97, 112]⟩, ⟨#[112, 114, 101]⟩, ⟨#[112, 114, 101, 45, 119, 114, 97, 112]⟩, ⟨#[112, 114, 101, 45, 108, 105, 110, 101]⟩], [⟨#[]⟩, ⟨#[108, 101, 102, 116]⟩, ⟨#[114, 105, 103, 104, 116]⟩, ⟨#[99, 101, 110, 116, 101, 114]⟩], [], [], []] : List (List ByteArray)).getD k []
theorem get_any (s : St) (k : Nat) (hk : k < 18) (w : World) :
    Calls Tryz.prog 42 #[.agg #[.int .i64 s.sh, .int .i64 s.fl, .int .i64 s.cl, .bool s.w.a, .bool s.w.p, .int .i64 s.w.n, .bool s.h.a, .bool s.h.p, .int .i64 s.h.n, .int .i64 s.mn, .int .i64 s.mx, .int .i64 s.mt, .bool s.mr.a, .bool s.mr.p, .int .i64 s.mr.n, .int .i64 s.mb, .bool s.ml.a, .bool s.ml.p, .int .i64 s.ml.n, .int .i64 s.bo, .int .i64 s.pa, .int .i64 s.wh, .int .i64 s.al, .int .i64 s.lh, .int .i64 s.ri, .int .i64 s.dn], .string (nmT k)] w fun e w' => e = .returned (.tuple #[.int .i64 (getN s k), .agg #[.bool (getZ s k).a, .bool (getZ s k).p, .int .i64 (getZ s k).n]]) ∧ Below w.heap.size w w' := by
  rcases lt18 hk with rfl | rfl | rfl | rfl | rfl | rfl | rfl | rfl | rfl | rfl | rfl | rfl | rfl | rfl | rfl | rfl | rfl | rfl
  · exact l4Get_0 s w
  · exact l4Get_1 s w
  · exact l4Get_2 s w
  · exact l4Get_3 s w
  · exact l4Get_4 s w
  · exact l4Get_5 s w
  · exact l4Get_6 s w
  · exact l4Get_7 s w
  · exact l4Get_8 s w
  · exact l4Get_9 s w
  · exact l4Get_10 s w
  · exact l4Get_11 s w
  · exact l4Get_12 s w
  · exact l4Get_13 s w
  · exact l4Get_14 s w
  · exact l4Get_15 s w
  · exact l4Get_16 s w
  · exact l4Get_17 s w
theorem words_any (k : Nat) (hk : k < 18) (w : World) :
    Calls Tryz.prog 36 #[.string (nmT k)] w fun e w' => (isW k = true ∧ e = .returned (.slice (some ⟨w.heap.size, 0, none⟩) (wl k).length (wl k).length) ∧ w' = w.alloc (.cells ((wl k).map Value.string).toArray 9)) ∨ (isW k = false ∧ e = .returned (.slice none 0 0) ∧ w' = w) := by
  rcases lt18 hk with rfl | rfl | rfl | rfl | rfl | rfl | rfl | rfl | rfl | rfl | rfl | rfl | rfl | rfl | rfl | rfl | rfl | rfl
  · exact (l4Words_0 w).mono fun e w' h => .inl ⟨rfl, h.1, h.2⟩
  · exact (l4Words_1 w).mono fun e w' h => .inl ⟨rfl, h.1, h.2⟩
  · exact (l4Words_2 w).mono fun e w' h => .inl ⟨rfl, h.1, h.2⟩
  · exact (l4Words_3 w).mono fun e w' h => .inr ⟨rfl, h.1, h.2⟩
  · exact (l4Words_4 w).mono fun e w' h => .inr ⟨rfl, h.1, h.2⟩
  · exact (l4Words_5 w).mono fun e w' h => .inr ⟨rfl, h.1, h.2⟩
  · exact (l4Words_6 w).mono fun e w' h => .inr ⟨rfl, h.1, h.2⟩
  · exact (l4Words_7 w).mono fun e w' h => .inr ⟨rfl, h.1, h.2⟩
  · exact (l4Words_8 w).mono fun e w' h => .inr ⟨rfl, h.1, h.2⟩
  · exact (l4Words_9 w).mono fun e w' h => .inr ⟨rfl, h.1, h.2⟩
  · exact (l4Words_10 w).mono fun e w' h => .inr ⟨rfl, h.1, h.2⟩
  · exact (l4Words_11 w).mono fun e w' h => .inr ⟨rfl, h.1, h.2⟩
  · exact (l4Words_12 w).mono fun e w' h => .inr ⟨rfl, h.1, h.2⟩
  · exact (l4Words_13 w).mono fun e w' h => .inl ⟨rfl, h.1, h.2⟩
  · exact (l4Words_14 w).mono fun e w' h => .inl ⟨rfl, h.1, h.2⟩
  · exact (l4Words_15 w).mono fun e w' h => .inr ⟨rfl, h.1, h.2⟩
  · exact (l4Words_16 w).mono fun e w' h => .inr ⟨rfl, h.1, h.2⟩
  · exact (l4Words_17 w).mono fun e w' h => .inr ⟨rfl, h.1, h.2⟩
theorem name_cell {k : Nat} (hk : k < 18) : nameCells[k]? = some (.string (nmT k)) := by
  rcases lt18 hk with rfl | rfl | rfl | rfl | rfl | rfl | rfl | rfl | rfl | rfl | rfl | rfl | rfl | rfl | rfl | rfl | rfl | rfl <;> rfl
theorem sameB_eq (s : St) {k : Nat} (hk : k < 18) : sameB s k = (decide (getN s k = getN plainS k) && decide ((getZ s k).a = (getZ plainS k).a ∧ (getZ s k).p = (getZ plainS k).p ∧ (getZ s k).n = (getZ plainS k).n)) := by
  rcases lt18 hk with rfl | rfl | rfl | rfl | rfl | rfl | rfl | rfl | rfl | rfl | rfl | rfl | rfl | rfl | rfl | rfl | rfl | rfl <;> simp [sameB, getN, getZ, plainS]
theorem tokT_plain (s : St) {k : Nat} (hk : k < 18) (h : isW k = false) : tokT s k = toldT (getZ s k).a (getZ s k).p (getZ s k).n := by
  rcases lt18 hk with rfl | rfl | rfl | rfl | rfl | rfl | rfl | rfl | rfl | rfl | rfl | rfl | rfl | rfl | rfl | rfl | rfl | rfl <;> first | rfl | (exact absurd h (by decide))
theorem getZ_bd (s : St) {k : Nat} (hk : k < 18) (hs : styleB s = true) : -1000000 ≤ (getZ s k).n ∧ (getZ s k).n ≤ 1000000 := by
  have h := hs
  unfold styleB gA gB gC gD gE at h
  simp only [Bool.and_eq_true] at h
  have z1 := size_bd h.1.1.1.2.1.1.1
  have z2 := size_bd h.1.1.1.2.1.1.2
  have z3 := size_bd h.1.1.1.2.1.2
  have z4 := size_bd h.1.1.1.2.2
  have b1 := inB_yes h.1.1.2.1.2
  have b2 := inB_yes h.1.1.2.2
  have b3 := inB_yes h.1.2.1.1.1
  have b4 := inB_yes h.1.2.1.1.2
  have b5 := inB_yes h.1.2.1.2
  have b6 := inB_yes h.1.2.2
  have b7 := inB_yes h.2.1.1
  have b8 := inB_yes h.2.1.2
  have b9 := inB_yes h.2.2
  clear h hs
  rcases lt18 hk with rfl | rfl | rfl | rfl | rfl | rfl | rfl | rfl | rfl | rfl | rfl | rfl | rfl | rfl | rfl | rfl | rfl | rfl <;> simp only [getZ, List.getD_cons_zero, List.getD_cons_succ] <;> omega
theorem word_at (s : St) {k : Nat} (hk : k < 18) (hs : styleB s = true) (hw : isW k = true) : ∃ m : Nat, getN s k = m ∧ m < (wl k).length ∧ (wl k).length ≤ 6 ∧ (wl k)[m]? = some (tokT s k) := by
  have h := hs
  unfold styleB gA gB gC gD gE at h
  simp only [Bool.and_eq_true] at h
  have r_sh := inB_yes h.1.1.1.1.1.1.1.1
  have r_fl := inB_yes h.1.1.1.1.1.1.1.2
  have r_cl := inB_yes h.1.1.1.1.1.1.2
  have r_wh := inB_yes h.1.1.1.1.1.2
  have r_al := inB_yes h.1.1.1.1.2
  clear h hs
  rcases lt18 hk with rfl | rfl | rfl | rfl | rfl | rfl | rfl | rfl | rfl | rfl | rfl | rfl | rfl | rfl | rfl | rfl | rfl | rfl
  · have hx : s.sh = 1 ∨ s.sh = 2 ∨ s.sh = 3 := by omega
    rcases hx with hx | hx | hx
    · exact ⟨1, hx, by decide, by decide, by show _ = some (([ByteArray.empty, ⟨#[98, 108, 111, 99, 107]⟩, ⟨#[105, 110, 108, 105, 110, 101]⟩, ⟨#[110, 111, 110, 101]⟩] : List ByteArray).getD s.sh.toNat ByteArray.empty); rw [hx]; rfl⟩
    · exact ⟨2, hx, by decide, by decide, by show _ = some (([ByteArray.empty, ⟨#[98, 108, 111, 99, 107]⟩, ⟨#[105, 110, 108, 105, 110, 101]⟩, ⟨#[110, 111, 110, 101]⟩] : List ByteArray).getD s.sh.toNat ByteArray.empty); rw [hx]; rfl⟩
    · exact ⟨3, hx, by decide, by decide, by show _ = some (([ByteArray.empty, ⟨#[98, 108, 111, 99, 107]⟩, ⟨#[105, 110, 108, 105, 110, 101]⟩, ⟨#[110, 111, 110, 101]⟩] : List ByteArray).getD s.sh.toNat ByteArray.empty); rw [hx]; rfl⟩
  · have hx : s.fl = 0 ∨ s.fl = 1 ∨ s.fl = 2 := by omega
    rcases hx with hx | hx | hx
    · exact ⟨0, hx, by decide, by decide, by show _ = some (([⟨#[110, 111, 110, 101]⟩, ⟨#[108, 101, 102, 116]⟩, ⟨#[114, 105, 103, 104, 116]⟩] : List ByteArray).getD s.fl.toNat ByteArray.empty); rw [hx]; rfl⟩
    · exact ⟨1, hx, by decide, by decide, by show _ = some (([⟨#[110, 111, 110, 101]⟩, ⟨#[108, 101, 102, 116]⟩, ⟨#[114, 105, 103, 104, 116]⟩] : List ByteArray).getD s.fl.toNat ByteArray.empty); rw [hx]; rfl⟩
    · exact ⟨2, hx, by decide, by decide, by show _ = some (([⟨#[110, 111, 110, 101]⟩, ⟨#[108, 101, 102, 116]⟩, ⟨#[114, 105, 103, 104, 116]⟩] : List ByteArray).getD s.fl.toNat ByteArray.empty); rw [hx]; rfl⟩
  · have hx : s.cl = 0 ∨ s.cl = 1 ∨ s.cl = 2 ∨ s.cl = 3 := by omega
    rcases hx with hx | hx | hx | hx
    · exact ⟨0, hx, by decide, by decide, by show _ = some (([⟨#[110, 111, 110, 101]⟩, ⟨#[108, 101, 102, 116]⟩, ⟨#[114, 105, 103, 104, 116]⟩, ⟨#[98, 111, 116, 104]⟩] : List ByteArray).getD s.cl.toNat ByteArray.empty); rw [hx]; rfl⟩
    · exact ⟨1, hx, by decide, by decide, by show _ = some (([⟨#[110, 111, 110, 101]⟩, ⟨#[108, 101, 102, 116]⟩, ⟨#[114, 105, 103, 104, 116]⟩, ⟨#[98, 111, 116, 104]⟩] : List ByteArray).getD s.cl.toNat ByteArray.empty); rw [hx]; rfl⟩
    · exact ⟨2, hx, by decide, by decide, by show _ = some (([⟨#[110, 111, 110, 101]⟩, ⟨#[108, 101, 102, 116]⟩, ⟨#[114, 105, 103, 104, 116]⟩, ⟨#[98, 111, 116, 104]⟩] : List ByteArray).getD s.cl.toNat ByteArray.empty); rw [hx]; rfl⟩
    · exact ⟨3, hx, by decide, by decide, by show _ = some (([⟨#[110, 111, 110, 101]⟩, ⟨#[108, 101, 102, 116]⟩, ⟨#[114, 105, 103, 104, 116]⟩, ⟨#[98, 111, 116, 104]⟩] : List ByteArray).getD s.cl.toNat ByteArray.empty); rw [hx]; rfl⟩
  · exact absurd hw (by decide)
  · exact absurd hw (by decide)
  · exact absurd hw (by decide)
  · exact absurd hw (by decide)
  · exact absurd hw (by decide)
  · exact absurd hw (by decide)
  · exact absurd hw (by decide)
  · exact absurd hw (by decide)
  · exact absurd hw (by decide)
  · exact absurd hw (by decide)
  · have hx : s.wh = 1 ∨ s.wh = 2 ∨ s.wh = 3 ∨ s.wh = 4 ∨ s.wh = 5 := by omega
    rcases hx with hx | hx | hx | hx | hx
    · exact ⟨1, hx, by decide, by decide, by show _ = some (([ByteArray.empty, ⟨#[110, 111, 114, 109, 97, 108]⟩, ⟨#[110, 111, 119, 114, 97, 112]⟩, ⟨#[112, 114, 101]⟩, ⟨#[112, 114, 101, 45, 119, 114, 97, 112]⟩, ⟨#[112, 114, 101, 45, 108, 105, 110, 101]⟩] : List ByteArray).getD s.wh.toNat ByteArray.empty); rw [hx]; rfl⟩
    · exact ⟨2, hx, by decide, by decide, by show _ = some (([ByteArray.empty, ⟨#[110, 111, 114, 109, 97, 108]⟩, ⟨#[110, 111, 119, 114, 97, 112]⟩, ⟨#[112, 114, 101]⟩, ⟨#[112, 114, 101, 45, 119, 114, 97, 112]⟩, ⟨#[112, 114, 101, 45, 108, 105, 110, 101]⟩] : List ByteArray).getD s.wh.toNat ByteArray.empty); rw [hx]; rfl⟩
    · exact ⟨3, hx, by decide, by decide, by show _ = some (([ByteArray.empty, ⟨#[110, 111, 114, 109, 97, 108]⟩, ⟨#[110, 111, 119, 114, 97, 112]⟩, ⟨#[112, 114, 101]⟩, ⟨#[112, 114, 101, 45, 119, 114, 97, 112]⟩, ⟨#[112, 114, 101, 45, 108, 105, 110, 101]⟩] : List ByteArray).getD s.wh.toNat ByteArray.empty); rw [hx]; rfl⟩
    · exact ⟨4, hx, by decide, by decide, by show _ = some (([ByteArray.empty, ⟨#[110, 111, 114, 109, 97, 108]⟩, ⟨#[110, 111, 119, 114, 97, 112]⟩, ⟨#[112, 114, 101]⟩, ⟨#[112, 114, 101, 45, 119, 114, 97, 112]⟩, ⟨#[112, 114, 101, 45, 108, 105, 110, 101]⟩] : List ByteArray).getD s.wh.toNat ByteArray.empty); rw [hx]; rfl⟩
    · exact ⟨5, hx, by decide, by decide, by show _ = some (([ByteArray.empty, ⟨#[110, 111, 114, 109, 97, 108]⟩, ⟨#[110, 111, 119, 114, 97, 112]⟩, ⟨#[112, 114, 101]⟩, ⟨#[112, 114, 101, 45, 119, 114, 97, 112]⟩, ⟨#[112, 114, 101, 45, 108, 105, 110, 101]⟩] : List ByteArray).getD s.wh.toNat ByteArray.empty); rw [hx]; rfl⟩
  · have hx : s.al = 1 ∨ s.al = 2 ∨ s.al = 3 := by omega
    rcases hx with hx | hx | hx
    · exact ⟨1, hx, by decide, by decide, by show _ = some (([ByteArray.empty, ⟨#[108, 101, 102, 116]⟩, ⟨#[114, 105, 103, 104, 116]⟩, ⟨#[99, 101, 110, 116, 101, 114]⟩] : List ByteArray).getD s.al.toNat ByteArray.empty); rw [hx]; rfl⟩
    · exact ⟨2, hx, by decide, by decide, by show _ = some (([ByteArray.empty, ⟨#[108, 101, 102, 116]⟩, ⟨#[114, 105, 103, 104, 116]⟩, ⟨#[99, 101, 110, 116, 101, 114]⟩] : List ByteArray).getD s.al.toNat ByteArray.empty); rw [hx]; rfl⟩
    · exact ⟨3, hx, by decide, by decide, by show _ = some (([ByteArray.empty, ⟨#[108, 101, 102, 116]⟩, ⟨#[114, 105, 103, 104, 116]⟩, ⟨#[99, 101, 110, 116, 101, 114]⟩] : List ByteArray).getD s.al.toNat ByteArray.empty); rw [hx]; rfl⟩
  · exact absurd hw (by decide)
  · exact absurd hw (by decide)
  · exact absurd hw (by decide)
end Go.Proofs.YtddnphgpdnedbaaGreatDoor

namespace Go.Proofs.YtddnphgpdnedbaaGreatDoor
open Go.ChangeShapes Go.WideShapes Go.ChangeAt Go.RowKit
set_option linter.unusedVariables false

set_option maxRecDepth 100000 in
set_option maxHeartbeats 8000000 in
theorem l4Text_any (s : St) (w : World) (hs : styleB s = true) :
    Calls Tryz.prog 43 #[.agg #[.int .i64 s.sh, .int .i64 s.fl, .int .i64 s.cl, .bool s.w.a, .bool s.w.p, .int .i64 s.w.n, .bool s.h.a, .bool s.h.p, .int .i64 s.h.n, .int .i64 s.mn, .int .i64 s.mx, .int .i64 s.mt, .bool s.mr.a, .bool s.mr.p, .int .i64 s.mr.n, .int .i64 s.mb, .bool s.ml.a, .bool s.ml.p, .int .i64 s.ml.n, .int .i64 s.bo, .int .i64 s.pa, .int .i64 s.wh, .int .i64 s.al, .int .i64 s.lh, .int .i64 s.ri, .int .i64 s.dn]] w fun e w' => e = .returned (.string (textTo s 18)) ∧ Below w.heap.size w w' := by
  have HS : Hid (styleB s = true) := hs
  clear hs
  go_enter Tryz.func43, Tryz.ntmps43
  go_wp2_with (first
    | (go_at_call 16; refine (specPlain_at _).mono ?_; rintro e w2 ⟨rfl, rfl⟩)
    | ((with_reducible show wpList _ _ _ (⟨none, Op.store 34 (Operand.tmp 4) (Operand.tmp 13), _, _, _, _⟩ :: _) _ _); refine wpList_store_new rfl 34 _ _ rfl rfl (#[.int .i64 1, .int .i64 0, .int .i64 0, .bool true, .bool false, .int .i64 0, .bool true, .bool false, .int .i64 0, .int .i64 0, .int .i64 (-1), .int .i64 0, .bool false, .bool false, .int .i64 0, .int .i64 0, .bool false, .bool false, .int .i64 0, .int .i64 0, .int .i64 0, .int .i64 1, .int .i64 1, .int .i64 0, .int .i64 0, .int .i64 0]) 34 _ _ (by simp) rfl rfl (by kernel_rfl) rfl (by kernel_rfl) ?_)
    | (go_at_call 41; refine (l4Names_at _).mono ?_; rintro e w2 ⟨rfl, rfl⟩))
  go_loopw [3, 16] (fun out i wr => ∃ k : Nat, k ≤ 18 ∧ i = .int .i64 k ∧ out = .string (textTo s k) ∧ wr.heap[w.heap.size]? = some (.cells (#[.int .i64 s.sh, .int .i64 s.fl, .int .i64 s.cl, .bool s.w.a, .bool s.w.p, .int .i64 s.w.n, .bool s.h.a, .bool s.h.p, .int .i64 s.h.n, .int .i64 s.mn, .int .i64 s.mx, .int .i64 s.mt, .bool s.mr.a, .bool s.mr.p, .int .i64 s.mr.n, .int .i64 s.mb, .bool s.ml.a, .bool s.ml.p, .int .i64 s.ml.n, .int .i64 s.bo, .int .i64 s.pa, .int .i64 s.wh, .int .i64 s.al, .int .i64 s.lh, .int .i64 s.ri, .int .i64 s.dn]) 34 (0, 0)) ∧ wr.heap[w.heap.size + 1 + 1]? = some (.cells (#[.int .i64 1, .int .i64 0, .int .i64 0, .bool true, .bool false, .int .i64 0, .bool true, .bool false, .int .i64 0, .int .i64 0, .int .i64 (-1), .int .i64 0, .bool false, .bool false, .int .i64 0, .int .i64 0, .bool false, .bool false, .int .i64 0, .int .i64 0, .int .i64 0, .int .i64 1, .int .i64 1, .int .i64 0, .int .i64 0, .int .i64 0]) 34 (0, 0)) ∧ wr.heap[w.heap.size + 1 + 1 + 1]? = some (.cells nameCells 9 (0, 0)) ∧ Below w.heap.size w wr) (fun _ i _ => 18 - (intOf i).toNat)
  case atStart =>
    refine ⟨0, by omega, rfl, rfl, ?_, ?_, ?_, ?_⟩
    · exact heap_in (heap_in (heap_in (heap_at _ _ _ rfl)))
    · exact heap_in (heap_at _ _ _ (by simp))
    · exact heap_at _ _ _ (by simp)
    · exact ((((Below.refl _ _).alloc (Nat.le_refl _) _).alloc (by simp) _).alloc (by simp; omega) _).alloc (by simp; omega) _
  case round =>
    obtain ⟨k, hk, rfl, rfl, lS, lP, lN, bel⟩ := hrel
    by_cases hlt : k < 18
    rotate_left
    · have e : k = 18 := by omega
      subst e
      clear lS lP lN
      go_wp2
      go_ret
      exact ⟨rfl, bel⟩
    have n0 := (lies_cell lN k).trans (name_cell hlt)
    have hs1 := nmT_size k
    have hs2 := tokT_size s k hlt HS.out
    have hs3 := textTo_size s HS.out k (by omega)
    have GS := fun w => get_any s k hlt w
    have GP := fun w => get_any plainS k hlt w
    have TD := fun w => l4Told_any (getZ s k).a (getZ s k).p (getZ s k).n w (getZ_bd s hlt HS.out).1 (getZ_bd s hlt HS.out).2
    have WD := fun w => words_any k hlt w
    have hsame := sameB_eq s hlt
    have htok := fun h => tokT_plain s hlt h
    have hword := fun h => word_at s hlt HS.out h
    generalize getZ s k = z at GS TD hsame htok
    generalize getZ plainS k = y at GP hsame
    generalize getN plainS k = m at GP hsame
    generalize hn : getN s k = n at GS hsame hword
    clear hn
    obtain ⟨za, zp, zn⟩ := z
    obtain ⟨ya, yp, yn⟩ := y
    dsimp only at GS GP TD hsame htok
    have EQ := eqSz_run za zp ya yp zn yn
    have GD := fun (w : World) (x y : Operand) => run_eqGuard_agg (P := Tryz.prog) w .eql 32 x y #[.bool za, .bool zp, .int .i64 zn] #[.bool ya, .bool yp, .int .i64 yn] eqSz_guard
    generalize decide (za = ya ∧ zp = yp ∧ zn = yn) = q at EQ hsame
    have KN : Hid (wr.heap[w.heap.size + 1 + 1 + 1]? = some (.cells nameCells 9 (0, 0))) := lN
    clear lN
    go_wp2_with ((with_reducible show wpList _ _ _ (⟨some 21, Op.load 34 _, _, _, _, _⟩ :: _) _ _); refine wpList_load_row rfl 34 _ rfl (w.heap.size) rfl _ (#[.int .i64 s.sh, .int .i64 s.fl, .int .i64 s.cl, .bool s.w.a, .bool s.w.p, .int .i64 s.w.n, .bool s.h.a, .bool s.h.p, .int .i64 s.h.n, .int .i64 s.mn, .int .i64 s.mx, .int .i64 s.mt, .bool s.mr.a, .bool s.mr.p, .int .i64 s.mr.n, .int .i64 s.mb, .bool s.ml.a, .bool s.ml.p, .int .i64 s.ml.n, .int .i64 s.bo, .int .i64 s.pa, .int .i64 s.wh, .int .i64 s.al, .int .i64 s.lh, .int .i64 s.ri, .int .i64 s.dn]) _ _ lS Tryz.underlying34 rfl (by kernel_rfl) ?_)
    refine (GS _).mono ?_
    rintro e w2 ⟨rfl, hb⟩
    have lS2 := below_lies hb lS (lies_lt lS)
    have lP2 := below_lies hb lP (lies_lt lP)
    have KN2 : Hid (w2.heap[w.heap.size + 1 + 1 + 1]? = some (.cells nameCells 9 (0, 0))) := below_lies hb KN.out (lies_lt KN.out)
    have bel2 := bel.trans (hb.mono bel.size)
    clear lS lP KN hb n0 bel GS
    have lP2x := heap_in (o := (.cells #[.bool za, .bool zp, .int .i64 zn] 32)) lP2
    go_wp2_with ((with_reducible show wpList _ _ _ (⟨some 27, Op.load 34 _, _, _, _, _⟩ :: _) _ _); refine wpList_load_row rfl 34 _ rfl (w.heap.size + 1 + 1) rfl _ (#[.int .i64 1, .int .i64 0, .int .i64 0, .bool true, .bool false, .int .i64 0, .bool true, .bool false, .int .i64 0, .int .i64 0, .int .i64 (-1), .int .i64 0, .bool false, .bool false, .int .i64 0, .int .i64 0, .bool false, .bool false, .int .i64 0, .int .i64 0, .int .i64 0, .int .i64 1, .int .i64 1, .int .i64 0, .int .i64 0, .int .i64 0]) _ _ lP2x Tryz.underlying34 rfl (by kernel_rfl) ?_)
    refine (GP _).mono ?_
    rintro e w3 ⟨rfl, hb⟩
    have lX : w3.heap[w2.heap.size]? = some (.cells #[.bool za, .bool zp, .int .i64 zn] 32 (0, 0)) := below_lies hb (heap_at _ _ _ rfl) (by simp)
    have KS3 : Hid (w3.heap[w.heap.size]? = some (.cells (#[.int .i64 s.sh, .int .i64 s.fl, .int .i64 s.cl, .bool s.w.a, .bool s.w.p, .int .i64 s.w.n, .bool s.h.a, .bool s.h.p, .int .i64 s.h.n, .int .i64 s.mn, .int .i64 s.mx, .int .i64 s.mt, .bool s.mr.a, .bool s.mr.p, .int .i64 s.mr.n, .int .i64 s.mb, .bool s.ml.a, .bool s.ml.p, .int .i64 s.ml.n, .int .i64 s.bo, .int .i64 s.pa, .int .i64 s.wh, .int .i64 s.al, .int .i64 s.lh, .int .i64 s.ri, .int .i64 s.dn]) 34 (0, 0))) := below_lies hb (heap_in lS2) (by have := lies_lt lS2; simp; omega)
    have KP3 : Hid (w3.heap[w.heap.size + 1 + 1]? = some (.cells (#[.int .i64 1, .int .i64 0, .int .i64 0, .bool true, .bool false, .int .i64 0, .bool true, .bool false, .int .i64 0, .int .i64 0, .int .i64 (-1), .int .i64 0, .bool false, .bool false, .int .i64 0, .int .i64 0, .bool false, .bool false, .int .i64 0, .int .i64 0, .int .i64 0, .int .i64 1, .int .i64 1, .int .i64 0, .int .i64 0, .int .i64 0]) 34 (0, 0))) := below_lies hb (heap_in lP2) (by have := lies_lt lP2; simp; omega)
    have KN3 : Hid (w3.heap[w.heap.size + 1 + 1 + 1]? = some (.cells nameCells 9 (0, 0))) := below_lies hb (heap_in KN2.out) (by have := lies_lt KN2.out; simp; omega)
    have bel3 : Below w.heap.size w w3 := (bel2.alloc bel2.size (.cells #[.bool za, .bool zp, .int .i64 zn] 32)).trans (hb.mono (by have := bel2.size; simp; omega))
    have ltx := lies_lt lX
    have x0 : w3.cell? ⟨w2.heap.size, 0, none⟩ = some (.bool za) := lies_cell lX 0
    have x1 : w3.cell? ⟨w2.heap.size, 1, none⟩ = some (.bool zp) := lies_cell lX 1
    have x2 : w3.cell? ⟨w2.heap.size, 2, none⟩ = some (.int .i64 zn) := lies_cell lX 2
    have nex : ¬ w2.heap.size = w3.heap.size := by omega
    have sz3 := bel3.size
    clear hb lS2 lP2 lP2x KN2 bel2 GP lX
    cases hq : sameB s k
    rotate_left
    · rw [hq] at hsame
      obtain ⟨h1, h2⟩ := Bool.and_eq_true _ _ ▸ hsame.symm
      have h1 := of_decide_eq_true h1
      subst h1
      subst h2
      clear hsame TD WD htok hword
      go_wp2
      go_roundw
      case rel => exact ⟨k + 1, by omega, by go_num, by rw [textTo_same hq], heap_in KS3.out, heap_in KP3.out, heap_in KN3.out, bel3.alloc sz3 _⟩
      case measure => simp [intOf]; omega
    by_cases hnm : n = m
    · subst hnm
      have hq2 : q = false := by rw [hq] at hsame; simpa using hsame.symm
      subst hq2
      clear hsame
      go_wp2_with fail
      refine (TD _).mono ?_
      rintro e w4 ⟨rfl, hb⟩
      have lS4 := below_lies hb (heap_in (o := (.cells #[.bool ya, .bool yp, .int .i64 yn] 32)) KS3.out) (by have := lies_lt KS3.out; simp; omega)
      have lP4 := below_lies hb (heap_in (o := (.cells #[.bool ya, .bool yp, .int .i64 yn] 32)) KP3.out) (by have := lies_lt KP3.out; simp; omega)
      have lN4 := below_lies hb (heap_in (o := (.cells #[.bool ya, .bool yp, .int .i64 yn] 32)) KN3.out) (by have := lies_lt KN3.out; simp; omega)
      have bel4 : Below w.heap.size w w4 := (bel3.alloc sz3 (.cells #[.bool ya, .bool yp, .int .i64 yn] 32)).trans (hb.mono (by simp; omega))
      have KS4 : Hid (w4.heap[w.heap.size]? = some (.cells (#[.int .i64 s.sh, .int .i64 s.fl, .int .i64 s.cl, .bool s.w.a, .bool s.w.p, .int .i64 s.w.n, .bool s.h.a, .bool s.h.p, .int .i64 s.h.n, .int .i64 s.mn, .int .i64 s.mx, .int .i64 s.mt, .bool s.mr.a, .bool s.mr.p, .int .i64 s.mr.n, .int .i64 s.mb, .bool s.ml.a, .bool s.ml.p, .int .i64 s.ml.n, .int .i64 s.bo, .int .i64 s.pa, .int .i64 s.wh, .int .i64 s.al, .int .i64 s.lh, .int .i64 s.ri, .int .i64 s.dn]) 34 (0, 0))) := lS4
      have KP4 : Hid (w4.heap[w.heap.size + 1 + 1]? = some (.cells (#[.int .i64 1, .int .i64 0, .int .i64 0, .bool true, .bool false, .int .i64 0, .bool true, .bool false, .int .i64 0, .int .i64 0, .int .i64 (-1), .int .i64 0, .bool false, .bool false, .int .i64 0, .int .i64 0, .bool false, .bool false, .int .i64 0, .int .i64 0, .int .i64 0, .int .i64 1, .int .i64 1, .int .i64 0, .int .i64 0, .int .i64 0]) 34 (0, 0))) := lP4
      have KN4 : Hid (w4.heap[w.heap.size + 1 + 1 + 1]? = some (.cells nameCells 9 (0, 0))) := lN4
      clear lS4 lP4 lN4 KS3 KP3 KN3 hb bel3 x0 x1 x2 TD EQ GD
      go_wp2_with fail
      refine (WD _).mono ?_
      rintro e w5 hw5
      rcases hw5 with ⟨hw, rfl, h5⟩ | ⟨hw, rfl, rfl⟩
      · obtain ⟨j, hj, hjl, hle, hat⟩ := hword hw
        have cw : w5.cell? ⟨w4.heap.size, j, none⟩ = some (.string (tokT s k)) := by
          rw [h5]
          exact (cell_of_row _ _ _ _ _ _ (heap_at _ _ _ rfl)).trans (by simp [hat])
        have bel5 : Below w.heap.size w w5 := by rw [h5]; exact bel4.alloc bel4.size _
        have KS5 : Hid (w5.heap[w.heap.size]? = some (.cells (#[.int .i64 s.sh, .int .i64 s.fl, .int .i64 s.cl, .bool s.w.a, .bool s.w.p, .int .i64 s.w.n, .bool s.h.a, .bool s.h.p, .int .i64 s.h.n, .int .i64 s.mn, .int .i64 s.mx, .int .i64 s.mt, .bool s.mr.a, .bool s.mr.p, .int .i64 s.mr.n, .int .i64 s.mb, .bool s.ml.a, .bool s.ml.p, .int .i64 s.ml.n, .int .i64 s.bo, .int .i64 s.pa, .int .i64 s.wh, .int .i64 s.al, .int .i64 s.lh, .int .i64 s.ri, .int .i64 s.dn]) 34 (0, 0))) := by rw [h5]; exact heap_in KS4.out
        have KP5 : Hid (w5.heap[w.heap.size + 1 + 1]? = some (.cells (#[.int .i64 1, .int .i64 0, .int .i64 0, .bool true, .bool false, .int .i64 0, .bool true, .bool false, .int .i64 0, .int .i64 0, .int .i64 (-1), .int .i64 0, .bool false, .bool false, .int .i64 0, .int .i64 0, .bool false, .bool false, .int .i64 0, .int .i64 0, .int .i64 0, .int .i64 1, .int .i64 1, .int .i64 0, .int .i64 0, .int .i64 0]) 34 (0, 0))) := by rw [h5]; exact heap_in KP4.out
        have KN5 : Hid (w5.heap[w.heap.size + 1 + 1 + 1]? = some (.cells nameCells 9 (0, 0))) := by rw [h5]; exact heap_in KN4.out
        clear h5 hword htok WD hat
        subst hj
        generalize (wl k).length = L at *
        have hl0 : (0 : Int) < (L : Int) := by omega
        have hl1 : (j : Int) < (L : Int) := by omega
        go_wp2
        go_roundw
        case rel => exact ⟨k + 1, by omega, by go_num, by rw [textTo_next hq]; rfl, KS5.out, KP5.out, KN5.out, bel5⟩
        case measure => simp [intOf]; omega
      · have ht := htok hw
        have hs4 : (toldT za zp zn).size ≤ 30 := by rw [← ht]; exact hs2
        have HT : Hid (tokT s k = toldT za zp zn) := ht
        clear ht htok hword WD
        go_wp2
        go_roundw
        case rel => exact ⟨k + 1, by omega, by go_num, by rw [textTo_next hq]; unfold pieceT; rw [HT.out], KS4.out, KP4.out, KN4.out, bel4⟩
        case measure => simp [intOf]; omega
    · clear hsame
      have hd : decide (n = m) = false := by simpa using hnm
      go_wp2_with fail
      refine (TD _).mono ?_
      rintro e w4 ⟨rfl, hb⟩
      have lS4 := below_lies hb (heap_in (o := (.cells #[.bool ya, .bool yp, .int .i64 yn] 32)) KS3.out) (by have := lies_lt KS3.out; simp; omega)
      have lP4 := below_lies hb (heap_in (o := (.cells #[.bool ya, .bool yp, .int .i64 yn] 32)) KP3.out) (by have := lies_lt KP3.out; simp; omega)
      have lN4 := below_lies hb (heap_in (o := (.cells #[.bool ya, .bool yp, .int .i64 yn] 32)) KN3.out) (by have := lies_lt KN3.out; simp; omega)
      have bel4 : Below w.heap.size w w4 := (bel3.alloc sz3 (.cells #[.bool ya, .bool yp, .int .i64 yn] 32)).trans (hb.mono (by simp; omega))
      have KS4 : Hid (w4.heap[w.heap.size]? = some (.cells (#[.int .i64 s.sh, .int .i64 s.fl, .int .i64 s.cl, .bool s.w.a, .bool s.w.p, .int .i64 s.w.n, .bool s.h.a, .bool s.h.p, .int .i64 s.h.n, .int .i64 s.mn, .int .i64 s.mx, .int .i64 s.mt, .bool s.mr.a, .bool s.mr.p, .int .i64 s.mr.n, .int .i64 s.mb, .bool s.ml.a, .bool s.ml.p, .int .i64 s.ml.n, .int .i64 s.bo, .int .i64 s.pa, .int .i64 s.wh, .int .i64 s.al, .int .i64 s.lh, .int .i64 s.ri, .int .i64 s.dn]) 34 (0, 0))) := lS4
      have KP4 : Hid (w4.heap[w.heap.size + 1 + 1]? = some (.cells (#[.int .i64 1, .int .i64 0, .int .i64 0, .bool true, .bool false, .int .i64 0, .bool true, .bool false, .int .i64 0, .int .i64 0, .int .i64 (-1), .int .i64 0, .bool false, .bool false, .int .i64 0, .int .i64 0, .bool false, .bool false, .int .i64 0, .int .i64 0, .int .i64 0, .int .i64 1, .int .i64 1, .int .i64 0, .int .i64 0, .int .i64 0]) 34 (0, 0))) := lP4
      have KN4 : Hid (w4.heap[w.heap.size + 1 + 1 + 1]? = some (.cells nameCells 9 (0, 0))) := lN4
      clear lS4 lP4 lN4 KS3 KP3 KN3 hb bel3 x0 x1 x2 TD EQ GD
      go_wp2_with fail
      refine (WD _).mono ?_
      rintro e w5 hw5
      rcases hw5 with ⟨hw, rfl, h5⟩ | ⟨hw, rfl, rfl⟩
      · obtain ⟨j, hj, hjl, hle, hat⟩ := hword hw
        have cw : w5.cell? ⟨w4.heap.size, j, none⟩ = some (.string (tokT s k)) := by
          rw [h5]
          exact (cell_of_row _ _ _ _ _ _ (heap_at _ _ _ rfl)).trans (by simp [hat])
        have bel5 : Below w.heap.size w w5 := by rw [h5]; exact bel4.alloc bel4.size _
        have KS5 : Hid (w5.heap[w.heap.size]? = some (.cells (#[.int .i64 s.sh, .int .i64 s.fl, .int .i64 s.cl, .bool s.w.a, .bool s.w.p, .int .i64 s.w.n, .bool s.h.a, .bool s.h.p, .int .i64 s.h.n, .int .i64 s.mn, .int .i64 s.mx, .int .i64 s.mt, .bool s.mr.a, .bool s.mr.p, .int .i64 s.mr.n, .int .i64 s.mb, .bool s.ml.a, .bool s.ml.p, .int .i64 s.ml.n, .int .i64 s.bo, .int .i64 s.pa, .int .i64 s.wh, .int .i64 s.al, .int .i64 s.lh, .int .i64 s.ri, .int .i64 s.dn]) 34 (0, 0))) := by rw [h5]; exact heap_in KS4.out
        have KP5 : Hid (w5.heap[w.heap.size + 1 + 1]? = some (.cells (#[.int .i64 1, .int .i64 0, .int .i64 0, .bool true, .bool false, .int .i64 0, .bool true, .bool false, .int .i64 0, .int .i64 0, .int .i64 (-1), .int .i64 0, .bool false, .bool false, .int .i64 0, .int .i64 0, .bool false, .bool false, .int .i64 0, .int .i64 0, .int .i64 0, .int .i64 1, .int .i64 1, .int .i64 0, .int .i64 0, .int .i64 0]) 34 (0, 0))) := by rw [h5]; exact heap_in KP4.out
        have KN5 : Hid (w5.heap[w.heap.size + 1 + 1 + 1]? = some (.cells nameCells 9 (0, 0))) := by rw [h5]; exact heap_in KN4.out
        clear h5 hword htok WD hat
        subst hj
        generalize (wl k).length = L at *
        have hl0 : (0 : Int) < (L : Int) := by omega
        have hl1 : (j : Int) < (L : Int) := by omega
        go_wp2
        go_roundw
        case rel => exact ⟨k + 1, by omega, by go_num, by rw [textTo_next hq]; rfl, KS5.out, KP5.out, KN5.out, bel5⟩
        case measure => simp [intOf]; omega
      · have ht := htok hw
        have hs4 : (toldT za zp zn).size ≤ 30 := by rw [← ht]; exact hs2
        have HT : Hid (tokT s k = toldT za zp zn) := ht
        clear ht htok hword WD
        go_wp2
        go_roundw
        case rel => exact ⟨k + 1, by omega, by go_num, by rw [textTo_next hq]; unfold pieceT; rw [HT.out], KS4.out, KP4.out, KN4.out, bel4⟩
        case measure => simp [intOf]; omega
end Go.Proofs.YtddnphgpdnedbaaGreatDoor

namespace Go.Proofs.YtddnphgpdnedbaaGreatDoor
open Go.ChangeShapes Go.WideShapes Go.ChangeAt Go.RowKit
set_option linter.unusedVariables false

def goodZ (k : Nat) (p : Bool) (n : Int) : Bool := if p then decide (n.tmod 100 = 0) else (decide (n.tmod 16 = 0) || (decide (n = -1) && decide (k = 6)))
theorem pixB_in {n : Int} (g0 : -1000000 ≤ n) (g1 : n ≤ 1000000) : pixB n = decide (n.tmod 16 = 0) := by
  unfold pixB
  rw [Bool.eq_iff_iff]
  simp only [decide_eq_true_eq]
  exact ⟨fun h => h.2.2, fun h => ⟨g0, g1, h⟩⟩
theorem good_len {n : Int} (k : Nat) (hk : k ≠ 6) (g0 : -1000000 ≤ n) (g1 : n ≤ 1000000) : (decide (n = 0) || pixB n) = goodZ k false n := by
  rw [pixB_in g0 g1]
  have e : goodZ k false n = (decide (n.tmod 16 = 0) || (decide (n = -1) && decide (k = 6))) := rfl
  rw [e, decide_eq_false hk, Bool.and_false, Bool.or_false]
  by_cases h : n = 0
  · subst h; decide
  · simp [h]
theorem good_max {n : Int} (g0 : -1000000 ≤ n) (g1 : n ≤ 1000000) : (decide (n = -1) || pixB n) = goodZ 6 false n := by
  rw [pixB_in g0 g1]
  have e : goodZ 6 false n = (decide (n.tmod 16 = 0) || (decide (n = -1) && true)) := rfl
  rw [e, Bool.and_true, Bool.or_comm]
theorem good_size {a p : Bool} {n : Int} (k : Nat) (hk : k ≠ 6) (a0 : Bool) (h : szB a p n = true) : (decide (a = a0 ∧ p = false ∧ n = 0) || toldB a p n) = goodZ k p n := by
  have hb := size_bd h
  cases a
  · cases p
    · have e : toldB false false n = pixB n := rfl
      rw [e, ← good_len k hk hb.1 hb.2]
      cases a0
      · simp
      · by_cases hn : n = 0
        · subst hn; decide
        · simp [hn]
    · have e : toldB false true n = decide (n.tmod 100 = 0) := rfl
      rw [e]
      simp [goodZ]
  · have e : toldB true p n = true := rfl
    rw [e, Bool.or_true]
    cases p
    · simp [szB] at h
      subst h
      rfl
    · simp [szB] at h
theorem good_any (s : St) {k : Nat} (hk : k < 18) (hs : styleB s = true) : (sameB s k || tokB s k) = goodZ k (getZ s k).p (getZ s k).n := by
  have bd := getZ_bd s hk hs
  have h := hs
  unfold styleB gA gB gC gD gE at h
  simp only [Bool.and_eq_true] at h
  have z1 := h.1.1.1.2.1.1.1
  have z2 := h.1.1.1.2.1.1.2
  have z3 := h.1.1.1.2.1.2
  have z4 := h.1.1.1.2.2
  clear h hs
  rcases lt18 hk with rfl | rfl | rfl | rfl | rfl | rfl | rfl | rfl | rfl | rfl | rfl | rfl | rfl | rfl | rfl | rfl | rfl | rfl
  · show (_ || true) = true; exact Bool.or_true _
  · show (_ || true) = true; exact Bool.or_true _
  · show (_ || true) = true; exact Bool.or_true _
  · exact good_size 3 (by decide) _ z1
  · exact good_size 4 (by decide) _ z2
  · exact good_len 5 (by decide) bd.1 bd.2
  · exact good_max bd.1 bd.2
  · exact good_len 7 (by decide) bd.1 bd.2
  · exact good_size 8 (by decide) _ z4
  · exact good_len 9 (by decide) bd.1 bd.2
  · exact good_size 10 (by decide) _ z3
  · exact good_len 11 (by decide) bd.1 bd.2
  · exact good_len 12 (by decide) bd.1 bd.2
  · show (_ || true) = true; exact Bool.or_true _
  · show (_ || true) = true; exact Bool.or_true _
  · exact good_len 15 (by decide) bd.1 bd.2
  · exact good_len 16 (by decide) bd.1 bd.2
  · exact good_len 17 (by decide) bd.1 bd.2
end Go.Proofs.YtddnphgpdnedbaaGreatDoor

namespace Go.Proofs.YtddnphgpdnedbaaGreatDoor
open Go.ChangeShapes Go.WideShapes Go.ChangeAt Go.RowKit
set_option linter.unusedVariables false

theorem name_max {k : Nat} (hk : k < 18) (h : k ≠ 6) : ¬ nmT k = ⟨#[109, 97, 120, 45, 119, 105, 100, 116, 104]⟩ ∧ (nmT k == ⟨#[109, 97, 120, 45, 119, 105, 100, 116, 104]⟩) = false ∧ ((nmT k).toList == [109, 97, 120, 45, 119, 105, 100, 116, 104]) = false := by
  have h1 : ¬ nmT k = ⟨#[109, 97, 120, 45, 119, 105, 100, 116, 104]⟩ := by rcases lt18 hk with rfl | rfl | rfl | rfl | rfl | rfl | rfl | rfl | rfl | rfl | rfl | rfl | rfl | rfl | rfl | rfl | rfl | rfl <;> first | exact absurd rfl h | decide
  have h2 : (nmT k == ⟨#[109, 97, 120, 45, 119, 105, 100, 116, 104]⟩) = false := by rcases lt18 hk with rfl | rfl | rfl | rfl | rfl | rfl | rfl | rfl | rfl | rfl | rfl | rfl | rfl | rfl | rfl | rfl | rfl | rfl <;> first | exact absurd rfl h | rfl
  have e := (beq_toListBytes (nmT k) ⟨#[109, 97, 120, 45, 119, 105, 100, 116, 104]⟩).symm.trans h2
  rw [show (⟨#[109, 97, 120, 45, 119, 105, 100, 116, 104]⟩ : ByteArray).toList = [109, 97, 120, 45, 119, 105, 100, 116, 104] by rw [ByteArray.toList_eq]] at e
  exact ⟨h1, h2, e⟩
theorem tmod_one : ¬ (-1 : Int).tmod 16 = 0 ∧ ¬ (-1 : Int).tmod 100 = 0 := by decide

set_option maxRecDepth 100000 in
set_option maxHeartbeats 8000000 in
theorem specStyleText_any (s : St) (w : World) :
    Calls Tryz.prog 19 #[.agg #[.int .i64 s.sh, .int .i64 s.fl, .int .i64 s.cl, .bool s.w.a, .bool s.w.p, .int .i64 s.w.n, .bool s.h.a, .bool s.h.p, .int .i64 s.h.n, .int .i64 s.mn, .int .i64 s.mx, .int .i64 s.mt, .bool s.mr.a, .bool s.mr.p, .int .i64 s.mr.n, .int .i64 s.mb, .bool s.ml.a, .bool s.ml.p, .int .i64 s.ml.n, .int .i64 s.bo, .int .i64 s.pa, .int .i64 s.wh, .int .i64 s.al, .int .i64 s.lh, .int .i64 s.ri, .int .i64 s.dn]] w fun e w' => e = .returned (.tuple #[.string (txtT s), .bool (txtB s)]) ∧ Below w.heap.size w w' := by
  have l0 : (w.alloc (.cells (#[.int .i64 s.sh, .int .i64 s.fl, .int .i64 s.cl, .bool s.w.a, .bool s.w.p, .int .i64 s.w.n, .bool s.h.a, .bool s.h.p, .int .i64 s.h.n, .int .i64 s.mn, .int .i64 s.mx, .int .i64 s.mt, .bool s.mr.a, .bool s.mr.p, .int .i64 s.mr.n, .int .i64 s.mb, .bool s.ml.a, .bool s.ml.p, .int .i64 s.ml.n, .int .i64 s.bo, .int .i64 s.pa, .int .i64 s.wh, .int .i64 s.al, .int .i64 s.lh, .int .i64 s.ri, .int .i64 s.dn]) 34)).heap[w.heap.size]? = some (.cells (#[.int .i64 s.sh, .int .i64 s.fl, .int .i64 s.cl, .bool s.w.a, .bool s.w.p, .int .i64 s.w.n, .bool s.h.a, .bool s.h.p, .int .i64 s.h.n, .int .i64 s.mn, .int .i64 s.mx, .int .i64 s.mt, .bool s.mr.a, .bool s.mr.p, .int .i64 s.mr.n, .int .i64 s.mb, .bool s.ml.a, .bool s.ml.p, .int .i64 s.ml.n, .int .i64 s.bo, .int .i64 s.pa, .int .i64 s.wh, .int .i64 s.al, .int .i64 s.lh, .int .i64 s.ri, .int .i64 s.dn]) 34 (0, 0)) := heap_at _ _ _ rfl
  have GS := specGoodStyle_any s (w.alloc (.cells (#[.int .i64 s.sh, .int .i64 s.fl, .int .i64 s.cl, .bool s.w.a, .bool s.w.p, .int .i64 s.w.n, .bool s.h.a, .bool s.h.p, .int .i64 s.h.n, .int .i64 s.mn, .int .i64 s.mx, .int .i64 s.mt, .bool s.mr.a, .bool s.mr.p, .int .i64 s.mr.n, .int .i64 s.mb, .bool s.ml.a, .bool s.ml.p, .int .i64 s.ml.n, .int .i64 s.bo, .int .i64 s.pa, .int .i64 s.wh, .int .i64 s.al, .int .i64 s.lh, .int .i64 s.ri, .int .i64 s.dn]) 34))
  cases hs : styleB s
  · rw [hs] at GS
    have e1 : txtB s = false := by simp [txtB, hs]
    have e2 : txtT s = ⟨#[]⟩ := by simp [txtT, e1]
    rw [e1, e2]
    clear e1 e2 hs
    go_enter Tryz.func19, Tryz.ntmps19
    go_wp2_with (first
      | ((with_reducible show wpList _ _ _ (⟨some 8, Op.load 34 _, _, _, _, _⟩ :: _) _ _); refine wpList_load_row rfl 34 _ rfl (w.heap.size) rfl _ (#[.int .i64 s.sh, .int .i64 s.fl, .int .i64 s.cl, .bool s.w.a, .bool s.w.p, .int .i64 s.w.n, .bool s.h.a, .bool s.h.p, .int .i64 s.h.n, .int .i64 s.mn, .int .i64 s.mx, .int .i64 s.mt, .bool s.mr.a, .bool s.mr.p, .int .i64 s.mr.n, .int .i64 s.mb, .bool s.ml.a, .bool s.ml.p, .int .i64 s.ml.n, .int .i64 s.bo, .int .i64 s.pa, .int .i64 s.wh, .int .i64 s.al, .int .i64 s.lh, .int .i64 s.ri, .int .i64 s.dn]) _ _ l0 Tryz.underlying34 rfl (by kernel_rfl) ?_)
      | (go_at_call 40; refine GS.mono ?_; rintro e w1 ⟨rfl, hb⟩))
    go_ret2
    exact ⟨rfl, ((Below.refl _ _).alloc (Nat.le_refl _) _).trans (hb.mono (by simp))⟩
  rw [hs] at GS
  have HS : Hid (styleB s = true) := hs
  clear hs
  go_enter Tryz.func19, Tryz.ntmps19
  go_wp2_with (first
    | ((with_reducible show wpList _ _ _ (⟨some 8, Op.load 34 _, _, _, _, _⟩ :: _) _ _); refine wpList_load_row rfl 34 _ rfl (w.heap.size) rfl _ (#[.int .i64 s.sh, .int .i64 s.fl, .int .i64 s.cl, .bool s.w.a, .bool s.w.p, .int .i64 s.w.n, .bool s.h.a, .bool s.h.p, .int .i64 s.h.n, .int .i64 s.mn, .int .i64 s.mx, .int .i64 s.mt, .bool s.mr.a, .bool s.mr.p, .int .i64 s.mr.n, .int .i64 s.mb, .bool s.ml.a, .bool s.ml.p, .int .i64 s.ml.n, .int .i64 s.bo, .int .i64 s.pa, .int .i64 s.wh, .int .i64 s.al, .int .i64 s.lh, .int .i64 s.ri, .int .i64 s.dn]) _ _ l0 Tryz.underlying34 rfl (by kernel_rfl) ?_)
    | (go_at_call 40; refine GS.mono ?_; rintro e w1 ⟨rfl, hb⟩)
    | (go_at_call 41; refine (l4Names_at _).mono ?_; rintro e w2 ⟨rfl, rfl⟩))
  have lS1 := below_lies hb l0 (by simp)
  have bel1 : Below w.heap.size w w1 := ((Below.refl _ _).alloc (Nat.le_refl _) _).trans (hb.mono (by simp))
  have lt1 : w.heap.size < w1.heap.size := lies_lt lS1
  clear hb GS l0
  go_loopw [13] (fun i wr => ∃ k : Nat, k ≤ 18 ∧ i = .int .i64 k ∧ okTo s k = true ∧ wr.heap[w.heap.size]? = some (.cells (#[.int .i64 s.sh, .int .i64 s.fl, .int .i64 s.cl, .bool s.w.a, .bool s.w.p, .int .i64 s.w.n, .bool s.h.a, .bool s.h.p, .int .i64 s.h.n, .int .i64 s.mn, .int .i64 s.mx, .int .i64 s.mt, .bool s.mr.a, .bool s.mr.p, .int .i64 s.mr.n, .int .i64 s.mb, .bool s.ml.a, .bool s.ml.p, .int .i64 s.ml.n, .int .i64 s.bo, .int .i64 s.pa, .int .i64 s.wh, .int .i64 s.al, .int .i64 s.lh, .int .i64 s.ri, .int .i64 s.dn]) 34 (0, 0)) ∧ wr.heap[w1.heap.size]? = some (.cells nameCells 9 (0, 0)) ∧ Below w.heap.size w wr) (fun i _ => 18 - (intOf i).toNat)
  case atStart => exact ⟨0, by omega, rfl, rfl, heap_in lS1, heap_at _ _ _ rfl, bel1.alloc bel1.size _⟩
  case round =>
    clear lS1 bel1
    obtain ⟨k, hk, rfl, hok, lS, lN, bel⟩ := hrel
    have HOK : Hid (okTo s k = true) := hok
    clear hok
    by_cases hlt : k < 18
    rotate_left
    · have e : k = 18 := by omega
      subst e
      have LT := fun w => l4Text_any s w HS.out
      have e1 : txtB s = true := by unfold txtB; rw [HS.out, HOK.out]; rfl
      have e2 : txtT s = textTo s 18 := by unfold txtT; rw [e1]; rfl
      have E1 : Hid (txtB s = true) := e1
      have E2 : Hid (txtT s = textTo s 18) := e2
      clear e1 e2 lN
      go_wp2_with (first
        | ((with_reducible show wpList _ _ _ (⟨some 57, Op.load 34 _, _, _, _, _⟩ :: _) _ _); refine wpList_load_row rfl 34 _ rfl (w.heap.size) rfl _ (#[.int .i64 s.sh, .int .i64 s.fl, .int .i64 s.cl, .bool s.w.a, .bool s.w.p, .int .i64 s.w.n, .bool s.h.a, .bool s.h.p, .int .i64 s.h.n, .int .i64 s.mn, .int .i64 s.mx, .int .i64 s.mt, .bool s.mr.a, .bool s.mr.p, .int .i64 s.mr.n, .int .i64 s.mb, .bool s.ml.a, .bool s.ml.p, .int .i64 s.ml.n, .int .i64 s.bo, .int .i64 s.pa, .int .i64 s.wh, .int .i64 s.al, .int .i64 s.lh, .int .i64 s.ri, .int .i64 s.dn]) _ _ lS Tryz.underlying34 rfl (by kernel_rfl) ?_)
        | (go_at_call 43; refine (LT _).mono ?_; rintro e w3 ⟨rfl, hb⟩))
      go_ret2
      exact ⟨ret2T E2.out.symm E1.out.symm, bel.trans (hb.mono bel.size)⟩
    have n0 := (lies_cell lN k).trans (name_cell hlt)
    have GT := fun w => get_any s k hlt w
    have hgd := good_any s hlt HS.out
    generalize getZ s k = z at GT hgd
    generalize getN s k = n at GT
    obtain ⟨za, zp, zn⟩ := z
    dsimp only at GT hgd
    have KN : Hid (wr.heap[w1.heap.size]? = some (.cells nameCells 9 (0, 0))) := lN
    clear lN
    go_wp2_with ((with_reducible show wpList _ _ _ (⟨some 18, Op.load 34 _, _, _, _, _⟩ :: _) _ _); refine wpList_load_row rfl 34 _ rfl (w.heap.size) rfl _ (#[.int .i64 s.sh, .int .i64 s.fl, .int .i64 s.cl, .bool s.w.a, .bool s.w.p, .int .i64 s.w.n, .bool s.h.a, .bool s.h.p, .int .i64 s.h.n, .int .i64 s.mn, .int .i64 s.mx, .int .i64 s.mt, .bool s.mr.a, .bool s.mr.p, .int .i64 s.mr.n, .int .i64 s.mb, .bool s.ml.a, .bool s.ml.p, .int .i64 s.ml.n, .int .i64 s.bo, .int .i64 s.pa, .int .i64 s.wh, .int .i64 s.al, .int .i64 s.lh, .int .i64 s.ri, .int .i64 s.dn]) _ _ lS Tryz.underlying34 rfl (by kernel_rfl) ?_)
    refine (GT _).mono ?_
    rintro e w2 ⟨rfl, hb⟩
    have KS2 : Hid (w2.heap[w.heap.size]? = some (.cells (#[.int .i64 s.sh, .int .i64 s.fl, .int .i64 s.cl, .bool s.w.a, .bool s.w.p, .int .i64 s.w.n, .bool s.h.a, .bool s.h.p, .int .i64 s.h.n, .int .i64 s.mn, .int .i64 s.mx, .int .i64 s.mt, .bool s.mr.a, .bool s.mr.p, .int .i64 s.mr.n, .int .i64 s.mb, .bool s.ml.a, .bool s.ml.p, .int .i64 s.ml.n, .int .i64 s.bo, .int .i64 s.pa, .int .i64 s.wh, .int .i64 s.al, .int .i64 s.lh, .int .i64 s.ri, .int .i64 s.dn]) 34 (0, 0))) := below_lies hb lS (lies_lt lS)
    have KN2 : Hid (w2.heap[w1.heap.size]? = some (.cells nameCells 9 (0, 0))) := below_lies hb KN.out (lies_lt KN.out)
    have bel2 := bel.trans (hb.mono bel.size)
    clear lS KN hb bel GT n0
    have sz2 := bel2.size
    cases hg : goodZ k zp zn
    · have e0 : okTo s 18 = false := okTo_le (k := k + 1) (by rw [okTo_succ, hgd, hg]; simp) (by omega)
      have e1 : txtB s = false := by unfold txtB; rw [e0]; simp
      have e2 : txtT s = ⟨#[]⟩ := by unfold txtT; rw [e1]; rfl
      have E1 : Hid (txtB s = false) := e1
      have E2 : Hid (txtT s = ⟨#[]⟩) := e2
      clear e0 e1 e2 hgd
      cases zp
      · have hg' : (decide (zn.tmod 16 = 0) || (decide (zn = -1) && decide (k = 6))) = false := hg
        rw [Bool.or_eq_false_iff] at hg'
        have h1 : ¬ zn.tmod 16 = 0 := of_decide_eq_false hg'.1
        by_cases hm : zn = -1
        · have h6 : k ≠ 6 := fun e => by rw [hm, e] at hg'; exact absurd hg'.2 (by decide)
          obtain ⟨q1, q2, q3⟩ := name_max hlt h6
          clear hg hg' h1
          subst hm
          go_wp2
          go_ret2
          exact ⟨ret2T E2.out.symm E1.out.symm, bel2.alloc sz2 _⟩
        · have h3 : (zn.tmod 16 == 0) = false := by simpa using h1
          clear hg hg'
          go_wp2
          go_ret2
          exact ⟨ret2T E2.out.symm E1.out.symm, bel2.alloc sz2 _⟩
      · have h1 : ¬ zn.tmod 100 = 0 := of_decide_eq_false hg
        have h3 : (zn.tmod 100 == 0) = false := by simpa using h1
        clear hg
        go_wp2
        go_ret2
        exact ⟨ret2T E2.out.symm E1.out.symm, bel2.alloc sz2 _⟩
    · have HNX : Hid (okTo s (k + 1) = true) := by
        show okTo s (k + 1) = true
        rw [okTo_succ, hgd, hg, HOK.out]
        rfl
      clear hgd HOK
      cases zp
      · have hg' : (decide (zn.tmod 16 = 0) || (decide (zn = -1) && decide (k = 6))) = true := hg
        by_cases h1 : zn.tmod 16 = 0
        · have hm : ¬ zn = -1 := fun e => by rw [e] at h1; exact tmod_one.1 h1
          clear hg hg'
          go_wp2
          go_roundw
          case rel => exact ⟨k + 1, by omega, by first | go_num | rfl, HNX.out, heap_in KS2.out, heap_in KN2.out, bel2.alloc sz2 _⟩
          case measure => simp [intOf]; omega
        · have hm : zn = -1 ∧ k = 6 := by simpa [h1] using hg'
          obtain ⟨hm, h6⟩ := hm
          have hnm : nmT 6 = ⟨#[109, 97, 120, 45, 119, 105, 100, 116, 104]⟩ := rfl
          clear hg hg' h1
          subst hm
          subst h6
          go_wp2
          go_roundw
          case rel => exact ⟨7, by omega, by first | go_num | rfl, HNX.out, heap_in KS2.out, heap_in KN2.out, bel2.alloc sz2 _⟩
          case measure => simp [intOf]
      · have h1 : zn.tmod 100 = 0 := of_decide_eq_true hg
        have hm : ¬ zn = -1 := fun e => by rw [e] at h1; exact tmod_one.2 h1
        clear hg
        go_wp2
        go_roundw
        case rel => exact ⟨k + 1, by omega, by first | go_num | rfl, HNX.out, heap_in KS2.out, heap_in KN2.out, bel2.alloc sz2 _⟩
        case measure => simp [intOf]; omega
end Go.Proofs.YtddnphgpdnedbaaGreatDoor
