/-
  The model of PixelsText, for lengths not below 0 of a quarter pixel, way by way.
-/
import Derived.Test.YtddnphgpdnedbaaDoorText
namespace Go.Proofs.YtddnphgpdnedbaaDoor
open Go.ChangeShapes Go.WideShapes Go.ChangeAt Go.RowKit
set_option linter.unusedVariables false

set_option maxHeartbeats 2000000 in
theorem specText_pos_0 (k q r : Int) (s : ByteArray) (w : World) (g0 : 0 ≤ k) (g1 : k ≤ 1000000) (hm : (k).tmod 16 = 0) (hsz : s.size ≤ 100)
    (F1 : IntKind.i64.wrap (k.tdiv 64) = q) (F2 : k.tmod 64 = r) (F3 : IntKind.i64.wrap (r.tdiv 16) = 0)
    (L : ∀ w : World, Calls Tryd.prog 58 #[.int .i64 q] w fun e w' => e = .returned (.string s) ∧ Below w.heap.size w w') :
    Calls Tryd.prog 59 #[.int .i64 k] w fun e w' => e = .returned (.tuple #[.string (⟨#[]⟩ ++ (s ++ ⟨#[]⟩) ++ ⟨#[112, 120]⟩), .bool true]) ∧ Below w.heap.size w w' := by
  go_enter Tryd.func59, Tryd.ntmps59
  go_wp2
  go_region_with (go_at_call 58; go_fit (L _); rintro e w1 ⟨rfl, hb⟩; obtain ⟨hc, hf⟩ := bcell hb)
  all_goals
    go_wp2
    go_ret2
    refine ⟨rfl, ?_⟩
    first
      | exact (below_undrew hb).alloc hb.size _
      | exact ((Below.refl w.heap.size w).alloc (Nat.le_refl _) _).trans ((below_undrew hb).mono (by simp))

set_option maxHeartbeats 2000000 in
theorem specText_pos_1 (k q r : Int) (s : ByteArray) (w : World) (g0 : 0 ≤ k) (g1 : k ≤ 1000000) (hm : (k).tmod 16 = 0) (hsz : s.size ≤ 100)
    (F1 : IntKind.i64.wrap (k.tdiv 64) = q) (F2 : k.tmod 64 = r) (F3 : IntKind.i64.wrap (r.tdiv 16) = 1)
    (L : ∀ w : World, Calls Tryd.prog 58 #[.int .i64 q] w fun e w' => e = .returned (.string s) ∧ Below w.heap.size w w') :
    Calls Tryd.prog 59 #[.int .i64 k] w fun e w' => e = .returned (.tuple #[.string (⟨#[]⟩ ++ (s ++ ⟨#[46, 50, 53]⟩) ++ ⟨#[112, 120]⟩), .bool true]) ∧ Below w.heap.size w w' := by
  go_enter Tryd.func59, Tryd.ntmps59
  go_wp2
  go_region_with (go_at_call 58; go_fit (L _); rintro e w1 ⟨rfl, hb⟩; obtain ⟨hc, hf⟩ := bcell hb)
  all_goals
    go_wp2
    go_ret2
    refine ⟨rfl, ?_⟩
    first
      | exact (below_undrew hb).alloc hb.size _
      | exact ((Below.refl w.heap.size w).alloc (Nat.le_refl _) _).trans ((below_undrew hb).mono (by simp))

set_option maxHeartbeats 2000000 in
theorem specText_pos_2 (k q r : Int) (s : ByteArray) (w : World) (g0 : 0 ≤ k) (g1 : k ≤ 1000000) (hm : (k).tmod 16 = 0) (hsz : s.size ≤ 100)
    (F1 : IntKind.i64.wrap (k.tdiv 64) = q) (F2 : k.tmod 64 = r) (F3 : IntKind.i64.wrap (r.tdiv 16) = 2)
    (L : ∀ w : World, Calls Tryd.prog 58 #[.int .i64 q] w fun e w' => e = .returned (.string s) ∧ Below w.heap.size w w') :
    Calls Tryd.prog 59 #[.int .i64 k] w fun e w' => e = .returned (.tuple #[.string (⟨#[]⟩ ++ (s ++ ⟨#[46, 53]⟩) ++ ⟨#[112, 120]⟩), .bool true]) ∧ Below w.heap.size w w' := by
  go_enter Tryd.func59, Tryd.ntmps59
  go_wp2
  go_region_with (go_at_call 58; go_fit (L _); rintro e w1 ⟨rfl, hb⟩; obtain ⟨hc, hf⟩ := bcell hb)
  all_goals
    go_wp2
    go_ret2
    refine ⟨rfl, ?_⟩
    first
      | exact (below_undrew hb).alloc hb.size _
      | exact ((Below.refl w.heap.size w).alloc (Nat.le_refl _) _).trans ((below_undrew hb).mono (by simp))

set_option maxHeartbeats 2000000 in
theorem specText_pos_3 (k q r : Int) (s : ByteArray) (w : World) (g0 : 0 ≤ k) (g1 : k ≤ 1000000) (hm : (k).tmod 16 = 0) (hsz : s.size ≤ 100)
    (F1 : IntKind.i64.wrap (k.tdiv 64) = q) (F2 : k.tmod 64 = r) (F3 : IntKind.i64.wrap (r.tdiv 16) = 3)
    (L : ∀ w : World, Calls Tryd.prog 58 #[.int .i64 q] w fun e w' => e = .returned (.string s) ∧ Below w.heap.size w w') :
    Calls Tryd.prog 59 #[.int .i64 k] w fun e w' => e = .returned (.tuple #[.string (⟨#[]⟩ ++ (s ++ ⟨#[46, 55, 53]⟩) ++ ⟨#[112, 120]⟩), .bool true]) ∧ Below w.heap.size w w' := by
  go_enter Tryd.func59, Tryd.ntmps59
  go_wp2
  go_region_with (go_at_call 58; go_fit (L _); rintro e w1 ⟨rfl, hb⟩; obtain ⟨hc, hf⟩ := bcell hb)
  all_goals
    go_wp2
    go_ret2
    refine ⟨rfl, ?_⟩
    first
      | exact (below_undrew hb).alloc hb.size _
      | exact ((Below.refl w.heap.size w).alloc (Nat.le_refl _) _).trans ((below_undrew hb).mono (by simp))
end Go.Proofs.YtddnphgpdnedbaaDoor
