/-
  The model's GoodStyle, for every style.
-/
import Derived.Test.YtddnphgpdnedbaaDoorStyB
namespace Go.Proofs.YtddnphgpdnedbaaDoor
open Go.ChangeShapes Go.WideShapes Go.ChangeAt Go.RowKit
set_option linter.unusedVariables false

def gA (s : St) : Bool := inB 1 3 s.sh && inB 0 2 s.fl && inB 0 3 s.cl && inB 1 5 s.wh && inB 1 3 s.al
def gB (s : St) : Bool := szB s.w.a s.w.p s.w.n && szB s.h.a s.h.p s.h.n && szB s.ml.a s.ml.p s.ml.n && szB s.mr.a s.mr.p s.mr.n
def gC (s : St) : Bool := !decide (s.w.n < 0) && !decide (s.h.n < 0) && !s.h.p && inB 0 1000000 s.mn && inB (-1) 1000000 s.mx
def gD (s : St) : Bool := inB (-1000000) 1000000 s.mt && inB (-1000000) 1000000 s.mb && inB (-1000000) 1000000 s.ri && inB (-1000000) 1000000 s.dn
def gE (s : St) : Bool := inB 0 64000 s.bo && inB 0 64000 s.pa && inB 0 64000 s.lh
def styleB (s : St) : Bool := gA s && gB s && gC s && gD s && gE s
/-- The first k sizes are good. -/
def okS (s : St) (k : Nat) : Prop := (0 < k → szB s.w.a s.w.p s.w.n = true) ∧ (1 < k → szB s.h.a s.h.p s.h.n = true) ∧ (2 < k → szB s.ml.a s.ml.p s.ml.n = true) ∧ (3 < k → szB s.mr.a s.mr.p s.mr.n = true)

set_option maxHeartbeats 4000000 in
theorem specGood_A (s : St) (w : World) (h : gA s = false) :
    Calls Tryd.prog 25 #[.agg #[.int .i64 s.sh, .int .i64 s.fl, .int .i64 s.cl, .bool s.w.a, .bool s.w.p, .int .i64 s.w.n, .bool s.h.a, .bool s.h.p, .int .i64 s.h.n, .int .i64 s.mn, .int .i64 s.mx, .int .i64 s.mt, .bool s.mr.a, .bool s.mr.p, .int .i64 s.mr.n, .int .i64 s.mb, .bool s.ml.a, .bool s.ml.p, .int .i64 s.ml.n, .int .i64 s.bo, .int .i64 s.pa, .int .i64 s.wh, .int .i64 s.al, .int .i64 s.lh, .int .i64 s.ri, .int .i64 s.dn]] w fun e w' => e = .returned (.bool false) ∧ Below w.heap.size w w' := by
  unfold gA at h
  cases h1 : inB 1 3 s.sh
  · go_enter Tryd.func25, Tryd.ntmps25
    go_wp2_with (first | (go_at_call 23; refine (l1In_any _ _ _ _).mono ?_; rintro e w' ⟨rfl, rfl⟩) | (go_at_call 40; refine (l3White_any _ _).mono ?_; rintro e w' ⟨rfl, rfl⟩))
    go_ret
    exact ⟨rfl, (Below.refl _ _).alloc (Nat.le_refl _) _⟩
  cases h2 : inB 0 2 s.fl
  · go_enter Tryd.func25, Tryd.ntmps25
    go_wp2_with (first | (go_at_call 23; refine (l1In_any _ _ _ _).mono ?_; rintro e w' ⟨rfl, rfl⟩) | (go_at_call 40; refine (l3White_any _ _).mono ?_; rintro e w' ⟨rfl, rfl⟩))
    go_ret
    exact ⟨rfl, (Below.refl _ _).alloc (Nat.le_refl _) _⟩
  cases h3 : inB 0 3 s.cl
  · go_enter Tryd.func25, Tryd.ntmps25
    go_wp2_with (first | (go_at_call 23; refine (l1In_any _ _ _ _).mono ?_; rintro e w' ⟨rfl, rfl⟩) | (go_at_call 40; refine (l3White_any _ _).mono ?_; rintro e w' ⟨rfl, rfl⟩))
    go_ret
    exact ⟨rfl, (Below.refl _ _).alloc (Nat.le_refl _) _⟩
  cases h4 : inB 1 5 s.wh
  · go_enter Tryd.func25, Tryd.ntmps25
    go_wp2_with (first | (go_at_call 23; refine (l1In_any _ _ _ _).mono ?_; rintro e w' ⟨rfl, rfl⟩) | (go_at_call 40; refine (l3White_any _ _).mono ?_; rintro e w' ⟨rfl, rfl⟩))
    go_ret
    exact ⟨rfl, (Below.refl _ _).alloc (Nat.le_refl _) _⟩
  cases h5 : inB 1 3 s.al
  · go_enter Tryd.func25, Tryd.ntmps25
    go_wp2_with (first | (go_at_call 23; refine (l1In_any _ _ _ _).mono ?_; rintro e w' ⟨rfl, rfl⟩) | (go_at_call 40; refine (l3White_any _ _).mono ?_; rintro e w' ⟨rfl, rfl⟩))
    go_ret
    exact ⟨rfl, (Below.refl _ _).alloc (Nat.le_refl _) _⟩
  · simp [h1, h2, h3, h4, h5] at h
end Go.Proofs.YtddnphgpdnedbaaDoor
