/-
  The program's PixelsText, for lengths below 0 of a quarter pixel, way by way.
-/
import Derived.Test.YtddnphgpdnedbaaDoorText
namespace Go.Proofs.YtddnphgpdnedbaaDoor
open Go.ChangeShapes Go.WideShapes Go.ChangeAt Go.RowKit
set_option linter.unusedVariables false

set_option maxHeartbeats 2000000 in
theorem implText_neg_0 (k q r : Int) (s : ByteArray) (w : World) (g0 : 0 < k) (g1 : k ≤ 1000000) (hm : ((-k)).tmod 16 = 0) (hsz : s.size ≤ 100)
    (F1 : IntKind.i64.wrap (k.tdiv 64) = q) (F2 : k.tmod 64 = r) (F3 : IntKind.i64.wrap (r.tdiv 16) = 0) (hp : 3 < w.heap.size) (hq : w.cell? ⟨3, 0, none⟩ = some (.string ⟨#[]⟩))
    (L : Calls Tryd.prog 80 #[.int .i64 q] w.drew fun e w' => e = .returned (.string s) ∧ Below w.drew.heap.size w.drew w') :
    Calls Tryd.prog 81 #[.int .i64 (-k)] w fun e w' => e = .returned (.tuple #[.string (⟨#[45]⟩ ++ s ++ ⟨#[]⟩ ++ ⟨#[112, 120]⟩), .bool true]) ∧ Below w.heap.size w w' := by
  go_enter Tryd.func81, Tryd.ntmps81
  go_wp2
  go_region_with (go_at_call 80; go_fit L; rintro e w1 ⟨rfl, hb⟩; have hq1 := (hb.cell (p := ⟨3, 0, none⟩) hp).trans hq)
  all_goals
    go_wp2
    go_ret2
    exact ⟨rfl, below_undrew hb⟩

set_option maxHeartbeats 2000000 in
theorem implText_neg_1 (k q r : Int) (s : ByteArray) (w : World) (g0 : 0 < k) (g1 : k ≤ 1000000) (hm : ((-k)).tmod 16 = 0) (hsz : s.size ≤ 100)
    (F1 : IntKind.i64.wrap (k.tdiv 64) = q) (F2 : k.tmod 64 = r) (F3 : IntKind.i64.wrap (r.tdiv 16) = 1) (hp : 3 < w.heap.size) (hq : w.cell? ⟨3, 1, none⟩ = some (.string ⟨#[46, 50, 53]⟩))
    (L : Calls Tryd.prog 80 #[.int .i64 q] w.drew fun e w' => e = .returned (.string s) ∧ Below w.drew.heap.size w.drew w') :
    Calls Tryd.prog 81 #[.int .i64 (-k)] w fun e w' => e = .returned (.tuple #[.string (⟨#[45]⟩ ++ s ++ ⟨#[46, 50, 53]⟩ ++ ⟨#[112, 120]⟩), .bool true]) ∧ Below w.heap.size w w' := by
  go_enter Tryd.func81, Tryd.ntmps81
  go_wp2
  go_region_with (go_at_call 80; go_fit L; rintro e w1 ⟨rfl, hb⟩; have hq1 := (hb.cell (p := ⟨3, 1, none⟩) hp).trans hq)
  all_goals
    go_wp2
    go_ret2
    exact ⟨rfl, below_undrew hb⟩

set_option maxHeartbeats 2000000 in
theorem implText_neg_2 (k q r : Int) (s : ByteArray) (w : World) (g0 : 0 < k) (g1 : k ≤ 1000000) (hm : ((-k)).tmod 16 = 0) (hsz : s.size ≤ 100)
    (F1 : IntKind.i64.wrap (k.tdiv 64) = q) (F2 : k.tmod 64 = r) (F3 : IntKind.i64.wrap (r.tdiv 16) = 2) (hp : 3 < w.heap.size) (hq : w.cell? ⟨3, 2, none⟩ = some (.string ⟨#[46, 53]⟩))
    (L : Calls Tryd.prog 80 #[.int .i64 q] w.drew fun e w' => e = .returned (.string s) ∧ Below w.drew.heap.size w.drew w') :
    Calls Tryd.prog 81 #[.int .i64 (-k)] w fun e w' => e = .returned (.tuple #[.string (⟨#[45]⟩ ++ s ++ ⟨#[46, 53]⟩ ++ ⟨#[112, 120]⟩), .bool true]) ∧ Below w.heap.size w w' := by
  go_enter Tryd.func81, Tryd.ntmps81
  go_wp2
  go_region_with (go_at_call 80; go_fit L; rintro e w1 ⟨rfl, hb⟩; have hq1 := (hb.cell (p := ⟨3, 2, none⟩) hp).trans hq)
  all_goals
    go_wp2
    go_ret2
    exact ⟨rfl, below_undrew hb⟩

set_option maxHeartbeats 2000000 in
theorem implText_neg_3 (k q r : Int) (s : ByteArray) (w : World) (g0 : 0 < k) (g1 : k ≤ 1000000) (hm : ((-k)).tmod 16 = 0) (hsz : s.size ≤ 100)
    (F1 : IntKind.i64.wrap (k.tdiv 64) = q) (F2 : k.tmod 64 = r) (F3 : IntKind.i64.wrap (r.tdiv 16) = 3) (hp : 3 < w.heap.size) (hq : w.cell? ⟨3, 3, none⟩ = some (.string ⟨#[46, 55, 53]⟩))
    (L : Calls Tryd.prog 80 #[.int .i64 q] w.drew fun e w' => e = .returned (.string s) ∧ Below w.drew.heap.size w.drew w') :
    Calls Tryd.prog 81 #[.int .i64 (-k)] w fun e w' => e = .returned (.tuple #[.string (⟨#[45]⟩ ++ s ++ ⟨#[46, 55, 53]⟩ ++ ⟨#[112, 120]⟩), .bool true]) ∧ Below w.heap.size w w' := by
  go_enter Tryd.func81, Tryd.ntmps81
  go_wp2
  go_region_with (go_at_call 80; go_fit L; rintro e w1 ⟨rfl, hb⟩; have hq1 := (hb.cell (p := ⟨3, 3, none⟩) hp).trans hq)
  all_goals
    go_wp2
    go_ret2
    exact ⟨rfl, below_undrew hb⟩
end Go.Proofs.YtddnphgpdnedbaaDoor
