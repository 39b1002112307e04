/-
  The program's and the model's small functions of chapter 6: a number between limits, half of one, a width that is cut, the left margin.
-/
import Derived.Test.YtijondjiehoafaaDoorWdI
namespace Go.Proofs.YtijondjiehoafaaDoor
open Go.ChangeShapes Go.WideShapes Go.ChangeAt Go.RowKit
set_option linter.unusedVariables false

theorem clampI (n lo hi : Int) (w : World) : Calls Tryd.prog 87 #[.int .i64 n, .int .i64 lo, .int .i64 hi] w fun e w' => e = .returned (.int .i64 (clZ n lo hi)) ∧ w' = w := by
  by_cases h1 : 0 ≤ hi
  · by_cases h2 : hi < n
    · by_cases h3 : hi < lo
      · go_enter Tryd.func87, Tryd.ntmps87
        go_wp2
        go_ret
        exact ⟨ret_int6 (by unfold clZ; split <;> omega), rfl⟩
      · go_enter Tryd.func87, Tryd.ntmps87
        go_wp2
        go_ret
        exact ⟨ret_int6 (by unfold clZ; split <;> omega), rfl⟩
    · by_cases h3 : n < lo
      · go_enter Tryd.func87, Tryd.ntmps87
        go_wp2
        go_ret
        exact ⟨ret_int6 (by unfold clZ; split <;> omega), rfl⟩
      · go_enter Tryd.func87, Tryd.ntmps87
        go_wp2
        go_ret
        exact ⟨ret_int6 (by unfold clZ; split <;> omega), rfl⟩
  · by_cases h3 : n < lo
    · go_enter Tryd.func87, Tryd.ntmps87
      go_wp2
      go_ret
      exact ⟨ret_int6 (by unfold clZ; split <;> omega), rfl⟩
    · go_enter Tryd.func87, Tryd.ntmps87
      go_wp2
      go_ret
      exact ⟨ret_int6 (by unfold clZ; split <;> omega), rfl⟩
theorem clampS (n lo hi : Int) (w : World) : Calls Tryd.prog 68 #[.int .i64 n, .int .i64 lo, .int .i64 hi] w fun e w' => e = .returned (.int .i64 (clZ n lo hi)) ∧ w' = w := by
  by_cases h1 : 0 ≤ hi
  · by_cases h2 : hi < n
    · by_cases h3 : hi < lo
      · go_enter Tryd.func68, Tryd.ntmps68
        go_wp2
        go_ret
        exact ⟨ret_int6 (by unfold clZ; split <;> omega), rfl⟩
      · go_enter Tryd.func68, Tryd.ntmps68
        go_wp2
        go_ret
        exact ⟨ret_int6 (by unfold clZ; split <;> omega), rfl⟩
    · by_cases h3 : n < lo
      · go_enter Tryd.func68, Tryd.ntmps68
        go_wp2
        go_ret
        exact ⟨ret_int6 (by unfold clZ; split <;> omega), rfl⟩
      · go_enter Tryd.func68, Tryd.ntmps68
        go_wp2
        go_ret
        exact ⟨ret_int6 (by unfold clZ; split <;> omega), rfl⟩
  · by_cases h3 : n < lo
    · go_enter Tryd.func68, Tryd.ntmps68
      go_wp2
      go_ret
      exact ⟨ret_int6 (by unfold clZ; split <;> omega), rfl⟩
    · go_enter Tryd.func68, Tryd.ntmps68
      go_wp2
      go_ret
      exact ⟨ret_int6 (by unfold clZ; split <;> omega), rfl⟩

theorem half_bd (n : Int) (h1 : -1000000000 ≤ n) (h2 : n ≤ 1000000000) : -1000000000 ≤ n.tdiv 2 ∧ n.tdiv 2 ≤ 1000000000 := by
  have e : (n.tdiv 2).natAbs = n.natAbs / 2 := Int.natAbs_tdiv n 2
  omega
theorem half_any (n : Int) (w : World) (h1 : -1000000000 ≤ n) (h2 : n ≤ 1000000000) : Calls Tryd.prog 89 #[.int .i64 n] w fun e w' => e = .returned (.int .i64 (down n 2)) ∧ w' = w := by
  obtain ⟨q1, q2⟩ := half_bd n h1 h2
  by_cases ht : n.tmod 2 < 0
  · have HD : Hid (down n 2 = n.tdiv 2 - 1) := down_lo ht
    go_enter Tryd.func89, Tryd.ntmps89
    go_wp2
    go_ret
    exact ⟨ret_int6 HD.out.symm, rfl⟩
  · have HD : Hid (down n 2 = n.tdiv 2) := down_hi ht
    go_enter Tryd.func89, Tryd.ntmps89
    go_wp2
    go_ret
    exact ⟨ret_int6 HD.out.symm, rfl⟩
theorem down_any (n : Int) (w : World) (h1 : -1000000000 ≤ n) (h2 : n ≤ 1000000000) : Calls Tryd.prog 69 #[.int .i64 n, .int .i64 2] w fun e w' => e = .returned (.int .i64 (down n 2)) ∧ w' = w := by
  obtain ⟨q1, q2⟩ := half_bd n h1 h2
  by_cases ht : n.tmod 2 < 0
  · have HD : Hid (down n 2 = n.tdiv 2 - 1) := down_lo ht
    go_enter Tryd.func69, Tryd.ntmps69
    go_wp2
    go_ret
    exact ⟨ret_int6 HD.out.symm, rfl⟩
  · have HD : Hid (down n 2 = n.tdiv 2) := down_hi ht
    go_enter Tryd.func69, Tryd.ntmps69
    go_wp2
    go_ret
    exact ⟨ret_int6 HD.out.symm, rfl⟩
set_option maxRecDepth 100000 in
set_option maxHeartbeats 2000000 in
theorem cut_any (s : St) (l x r : Int) (w : World) :
    Calls Tryd.prog 71 #[.agg #[.int .i64 s.sh, .int .i64 s.fl, .int .i64 s.cl, .bool s.w.a, .bool s.w.p, .int .i64 s.w.n, .bool s.h.a, .bool s.h.p, .int .i64 s.h.n, .int .i64 s.mn, .int .i64 s.mx, .int .i64 s.mt, .bool s.mr.a, .bool s.mr.p, .int .i64 s.mr.n, .int .i64 s.mb, .bool s.ml.a, .bool s.ml.p, .int .i64 s.ml.n, .int .i64 s.bo, .int .i64 s.pa, .int .i64 s.wh, .int .i64 s.al, .int .i64 s.lh, .int .i64 s.ri, .int .i64 s.dn], .agg #[.int .i64 l, .int .i64 x, .int .i64 r]] w fun e w' => e = .returned (.agg #[.int .i64 l, .int .i64 (clZ x s.mn s.mx), .int .i64 r]) ∧ Below w.heap.size w w' := by
  have C := fun w => clampI x s.mn s.mx w
  generalize clZ x s.mn s.mx = y at C ⊢
  go_enter Tryd.func71, Tryd.ntmps71
  go_wp2_with (go_at_call 87; refine (C _).mono ?_; rintro e w' ⟨rfl, rfl⟩)
  refine bodyPost_ret (v := .agg #[.int .i64 l, .int .i64 y, .int .i64 r]) (by simp [results, Tryd.results71, go_sem]) rfl ⟨rfl, ?_⟩
  repeat (first | exact Below.refl _ _ | refine Below.setCell ?_ (by first | (simp; done) | (simp; omega)) _ | refine Below.alloc ?_ (by first | (simp; done) | (simp; omega)) _)

/-- The left margin beside a rest. -/
def lbZ (s : St) (l r rest : Int) : Int := if s.ml.a then (if s.mr.a then max (down (rest - r) 2) 0 else max (rest - r) 0) else l
theorem max_pos {a : Int} (h : 0 ≤ a) : max a 0 = a := by omega
theorem max_neg {a : Int} (h : ¬ 0 ≤ a) : max a 0 = 0 := by omega
set_option maxRecDepth 100000 in
set_option maxHeartbeats 4000000 in
theorem left_any (s : St) (l x r rest : Int) (w : World) (r1 : -1000000 ≤ r) (r2 : r ≤ 1000000) (t1 : -100000000 ≤ rest) (t2 : rest ≤ 100000000) :
    Calls Tryd.prog 73 #[.agg #[.int .i64 s.sh, .int .i64 s.fl, .int .i64 s.cl, .bool s.w.a, .bool s.w.p, .int .i64 s.w.n, .bool s.h.a, .bool s.h.p, .int .i64 s.h.n, .int .i64 s.mn, .int .i64 s.mx, .int .i64 s.mt, .bool s.mr.a, .bool s.mr.p, .int .i64 s.mr.n, .int .i64 s.mb, .bool s.ml.a, .bool s.ml.p, .int .i64 s.ml.n, .int .i64 s.bo, .int .i64 s.pa, .int .i64 s.wh, .int .i64 s.al, .int .i64 s.lh, .int .i64 s.ri, .int .i64 s.dn], .agg #[.int .i64 l, .int .i64 x, .int .i64 r], .int .i64 rest] w fun e w' => e = .returned (.int .i64 (lbZ s l r rest)) ∧ Below w.heap.size w w' := by
  cases ha : s.ml.a
  · have HZ : Hid (lbZ s l r rest = l) := by show _ = _; unfold lbZ; rw [ha]; rfl
    go_enter Tryd.func73, Tryd.ntmps73
    go_wp2
    go_ret
    exact ⟨ret_int6 HZ.out.symm, by repeat (first | exact Below.refl _ _ | refine Below.alloc ?_ (by first | (simp; done) | (simp; omega)) _)⟩
  · cases hr : s.mr.a
    · have HZ : Hid (lbZ s l r rest = max (rest - r) 0) := by show _ = _; unfold lbZ; rw [ha, hr]; rfl
      go_enter Tryd.func73, Tryd.ntmps73
      go_wp2
      go_ret
      exact ⟨ret_int6 HZ.out.symm, by repeat (first | exact Below.refl _ _ | refine Below.alloc ?_ (by first | (simp; done) | (simp; omega)) _)⟩
    · have HF := fun w => half_any (rest - r) w (by omega) (by omega)
      have HZ : Hid (lbZ s l r rest = max (down (rest - r) 2) 0) := by show _ = _; unfold lbZ; rw [ha, hr]; rfl
      generalize down (rest - r) 2 = q at HF HZ
      go_enter Tryd.func73, Tryd.ntmps73
      go_wp2_with (go_at_call 89; refine (HF _).mono ?_; rintro e w' ⟨rfl, rfl⟩)
      go_ret
      exact ⟨ret_int6 HZ.out.symm, by repeat (first | exact Below.refl _ _ | refine Below.alloc ?_ (by first | (simp; done) | (simp; omega)) _)⟩
end Go.Proofs.YtijondjiehoafaaDoor
