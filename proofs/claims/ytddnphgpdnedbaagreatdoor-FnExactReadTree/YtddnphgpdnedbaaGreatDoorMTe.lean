/-
  Contracts of PixelsText and of its model: both answer pixText of the length, for every int; the program's reads the table of quarters and the library's table of powers, as they are laid.
  The model of PixelsText, for lengths not below 0 of a quarter pixel, way by way.
  The model of PixelsText, for lengths below 0 of a quarter pixel, way by way.
  The program's PixelsText, for lengths not below 0 of a quarter pixel, way by way.
  The program's PixelsText, for lengths below 0 of a quarter pixel, way by way.
  PixelsText and its model answer pixText and pixB of the length, for every int, where the two tables lie as they are laid.
-/
import Derived.Test.YtddnphgpdnedbaaGreatDoorNum
import Derived.Test.YtddnphgpdnedbaaGreatDoorShelf
import Derived.Lib.LaidTab
import Derived.Lib.ItoaMem
namespace Go.Proofs.YtddnphgpdnedbaaGreatDoor
open Go.ChangeShapes Go.WideShapes Go.ChangeAt Go.RowKit
set_option linter.unusedVariables false

theorem below_grow (w : World) (q : Nat) (os : Array Obj) : Below w.heap.size w (Sort.grow (w.drewN q) os) :=
  ⟨rfl, rfl, rfl, by show w.heap.size ≤ (w.heap ++ os).size; simp, fun k hk => by show (w.heap ++ os)[k]? = w.heap[k]?; rw [Array.getElem?_append_left hk]⟩
theorem itoa_any (n : Nat) (h : n < 1000000000000000000) (w : World) (htab : Lib.TabIs Tryz.prog w "internal/strconv.uint64pow10" .u64 Lib.pow10Tab) :
    Calls Tryz.prog 120 #[.int .i64 n] w fun e w' => e = .returned (.string (num n)) ∧ Below w.heap.size w w' := by
  refine (Tryz.strconv_Itoa n (by omega) (by omega) w htab).mono ?_
  rintro e w' ⟨rfl, k, os, rfl⟩
  exact ⟨by rw [Lib.itoa_nonneg]; rfl, below_grow w k os⟩

/-- The text of a quarter's part. -/
def quarter (j : Nat) : ByteArray := match j with
  | 0 => ⟨#[]⟩
  | 1 => ⟨#[46, 50, 53]⟩
  | 2 => ⟨#[46, 53]⟩
  | _ => ⟨#[46, 55, 53]⟩
def signText (n : Int) : ByteArray := if n < 0 then ⟨#[45]⟩ else ⟨#[]⟩
def pixB (n : Int) : Bool := decide (-1000000 ≤ n ∧ n ≤ 1000000 ∧ n.tmod 16 = 0)
/-- The text of a length. -/
def pixText (n : Int) : ByteArray := if pixB n then signText n ++ num (n.natAbs / 64) ++ quarter (n.natAbs % 64 / 16) ++ ⟨#[112, 120]⟩ else ⟨#[]⟩
end Go.Proofs.YtddnphgpdnedbaaGreatDoor

namespace Go.Proofs.YtddnphgpdnedbaaGreatDoor
open Go.ChangeShapes Go.WideShapes Go.ChangeAt Go.RowKit
set_option linter.unusedVariables false

set_option maxHeartbeats 2000000 in
theorem specText_pos_0 (k q r : Int) (s : ByteArray) (w : World) (g0 : 0 ≤ k) (g1 : k ≤ 1000000) (hm : (k).tmod 16 = 0) (hsz : s.size ≤ 100)
    (F1 : IntKind.i64.wrap (k.tdiv 64) = q) (F2 : k.tmod 64 = r) (F3 : IntKind.i64.wrap (r.tdiv 16) = 0)
    (L : ∀ w : World, Calls Tryz.prog 87 #[.int .i64 q] w fun e w' => e = .returned (.string s) ∧ Below w.heap.size w w') :
    Calls Tryz.prog 88 #[.int .i64 k] w fun e w' => e = .returned (.tuple #[.string (⟨#[]⟩ ++ (s ++ ⟨#[]⟩) ++ ⟨#[112, 120]⟩), .bool true]) ∧ Below w.heap.size w w' := by
  go_enter Tryz.func88, Tryz.ntmps88
  go_wp2
  go_region_with (go_at_call 87; go_fit (L _); rintro e w1 ⟨rfl, hb⟩; obtain ⟨hc, hf⟩ := bcell hb)
  all_goals
    go_wp2
    go_ret2
    refine ⟨rfl, ?_⟩
    first
      | exact (below_undrew hb).alloc hb.size _
      | exact ((Below.refl w.heap.size w).alloc (Nat.le_refl _) _).trans ((below_undrew hb).mono (by simp))

set_option maxHeartbeats 2000000 in
theorem specText_pos_1 (k q r : Int) (s : ByteArray) (w : World) (g0 : 0 ≤ k) (g1 : k ≤ 1000000) (hm : (k).tmod 16 = 0) (hsz : s.size ≤ 100)
    (F1 : IntKind.i64.wrap (k.tdiv 64) = q) (F2 : k.tmod 64 = r) (F3 : IntKind.i64.wrap (r.tdiv 16) = 1)
    (L : ∀ w : World, Calls Tryz.prog 87 #[.int .i64 q] w fun e w' => e = .returned (.string s) ∧ Below w.heap.size w w') :
    Calls Tryz.prog 88 #[.int .i64 k] w fun e w' => e = .returned (.tuple #[.string (⟨#[]⟩ ++ (s ++ ⟨#[46, 50, 53]⟩) ++ ⟨#[112, 120]⟩), .bool true]) ∧ Below w.heap.size w w' := by
  go_enter Tryz.func88, Tryz.ntmps88
  go_wp2
  go_region_with (go_at_call 87; go_fit (L _); rintro e w1 ⟨rfl, hb⟩; obtain ⟨hc, hf⟩ := bcell hb)
  all_goals
    go_wp2
    go_ret2
    refine ⟨rfl, ?_⟩
    first
      | exact (below_undrew hb).alloc hb.size _
      | exact ((Below.refl w.heap.size w).alloc (Nat.le_refl _) _).trans ((below_undrew hb).mono (by simp))

set_option maxHeartbeats 2000000 in
theorem specText_pos_2 (k q r : Int) (s : ByteArray) (w : World) (g0 : 0 ≤ k) (g1 : k ≤ 1000000) (hm : (k).tmod 16 = 0) (hsz : s.size ≤ 100)
    (F1 : IntKind.i64.wrap (k.tdiv 64) = q) (F2 : k.tmod 64 = r) (F3 : IntKind.i64.wrap (r.tdiv 16) = 2)
    (L : ∀ w : World, Calls Tryz.prog 87 #[.int .i64 q] w fun e w' => e = .returned (.string s) ∧ Below w.heap.size w w') :
    Calls Tryz.prog 88 #[.int .i64 k] w fun e w' => e = .returned (.tuple #[.string (⟨#[]⟩ ++ (s ++ ⟨#[46, 53]⟩) ++ ⟨#[112, 120]⟩), .bool true]) ∧ Below w.heap.size w w' := by
  go_enter Tryz.func88, Tryz.ntmps88
  go_wp2
  go_region_with (go_at_call 87; go_fit (L _); rintro e w1 ⟨rfl, hb⟩; obtain ⟨hc, hf⟩ := bcell hb)
  all_goals
    go_wp2
    go_ret2
    refine ⟨rfl, ?_⟩
    first
      | exact (below_undrew hb).alloc hb.size _
      | exact ((Below.refl w.heap.size w).alloc (Nat.le_refl _) _).trans ((below_undrew hb).mono (by simp))

set_option maxHeartbeats 2000000 in
theorem specText_pos_3 (k q r : Int) (s : ByteArray) (w : World) (g0 : 0 ≤ k) (g1 : k ≤ 1000000) (hm : (k).tmod 16 = 0) (hsz : s.size ≤ 100)
    (F1 : IntKind.i64.wrap (k.tdiv 64) = q) (F2 : k.tmod 64 = r) (F3 : IntKind.i64.wrap (r.tdiv 16) = 3)
    (L : ∀ w : World, Calls Tryz.prog 87 #[.int .i64 q] w fun e w' => e = .returned (.string s) ∧ Below w.heap.size w w') :
    Calls Tryz.prog 88 #[.int .i64 k] w fun e w' => e = .returned (.tuple #[.string (⟨#[]⟩ ++ (s ++ ⟨#[46, 55, 53]⟩) ++ ⟨#[112, 120]⟩), .bool true]) ∧ Below w.heap.size w w' := by
  go_enter Tryz.func88, Tryz.ntmps88
  go_wp2
  go_region_with (go_at_call 87; go_fit (L _); rintro e w1 ⟨rfl, hb⟩; obtain ⟨hc, hf⟩ := bcell hb)
  all_goals
    go_wp2
    go_ret2
    refine ⟨rfl, ?_⟩
    first
      | exact (below_undrew hb).alloc hb.size _
      | exact ((Below.refl w.heap.size w).alloc (Nat.le_refl _) _).trans ((below_undrew hb).mono (by simp))
end Go.Proofs.YtddnphgpdnedbaaGreatDoor

namespace Go.Proofs.YtddnphgpdnedbaaGreatDoor
open Go.ChangeShapes Go.WideShapes Go.ChangeAt Go.RowKit
set_option linter.unusedVariables false

set_option maxHeartbeats 2000000 in
theorem specText_neg_0 (k q r : Int) (s : ByteArray) (w : World) (g0 : 0 < k) (g1 : k ≤ 1000000) (hm : ((-k)).tmod 16 = 0) (hsz : s.size ≤ 100)
    (F1 : IntKind.i64.wrap (k.tdiv 64) = q) (F2 : k.tmod 64 = r) (F3 : IntKind.i64.wrap (r.tdiv 16) = 0)
    (L : ∀ w : World, Calls Tryz.prog 87 #[.int .i64 q] w fun e w' => e = .returned (.string s) ∧ Below w.heap.size w w') :
    Calls Tryz.prog 88 #[.int .i64 (-k)] w fun e w' => e = .returned (.tuple #[.string (⟨#[45]⟩ ++ (s ++ ⟨#[]⟩) ++ ⟨#[112, 120]⟩), .bool true]) ∧ Below w.heap.size w w' := by
  go_enter Tryz.func88, Tryz.ntmps88
  go_wp2
  go_region_with (go_at_call 87; go_fit (L _); rintro e w1 ⟨rfl, hb⟩; obtain ⟨hc, hf⟩ := bcell hb)
  all_goals
    go_wp2
    go_ret2
    refine ⟨rfl, ?_⟩
    first
      | exact (below_undrew hb).alloc hb.size _
      | exact ((Below.refl w.heap.size w).alloc (Nat.le_refl _) _).trans ((below_undrew hb).mono (by simp))

set_option maxHeartbeats 2000000 in
theorem specText_neg_1 (k q r : Int) (s : ByteArray) (w : World) (g0 : 0 < k) (g1 : k ≤ 1000000) (hm : ((-k)).tmod 16 = 0) (hsz : s.size ≤ 100)
    (F1 : IntKind.i64.wrap (k.tdiv 64) = q) (F2 : k.tmod 64 = r) (F3 : IntKind.i64.wrap (r.tdiv 16) = 1)
    (L : ∀ w : World, Calls Tryz.prog 87 #[.int .i64 q] w fun e w' => e = .returned (.string s) ∧ Below w.heap.size w w') :
    Calls Tryz.prog 88 #[.int .i64 (-k)] w fun e w' => e = .returned (.tuple #[.string (⟨#[45]⟩ ++ (s ++ ⟨#[46, 50, 53]⟩) ++ ⟨#[112, 120]⟩), .bool true]) ∧ Below w.heap.size w w' := by
  go_enter Tryz.func88, Tryz.ntmps88
  go_wp2
  go_region_with (go_at_call 87; go_fit (L _); rintro e w1 ⟨rfl, hb⟩; obtain ⟨hc, hf⟩ := bcell hb)
  all_goals
    go_wp2
    go_ret2
    refine ⟨rfl, ?_⟩
    first
      | exact (below_undrew hb).alloc hb.size _
      | exact ((Below.refl w.heap.size w).alloc (Nat.le_refl _) _).trans ((below_undrew hb).mono (by simp))

set_option maxHeartbeats 2000000 in
theorem specText_neg_2 (k q r : Int) (s : ByteArray) (w : World) (g0 : 0 < k) (g1 : k ≤ 1000000) (hm : ((-k)).tmod 16 = 0) (hsz : s.size ≤ 100)
    (F1 : IntKind.i64.wrap (k.tdiv 64) = q) (F2 : k.tmod 64 = r) (F3 : IntKind.i64.wrap (r.tdiv 16) = 2)
    (L : ∀ w : World, Calls Tryz.prog 87 #[.int .i64 q] w fun e w' => e = .returned (.string s) ∧ Below w.heap.size w w') :
    Calls Tryz.prog 88 #[.int .i64 (-k)] w fun e w' => e = .returned (.tuple #[.string (⟨#[45]⟩ ++ (s ++ ⟨#[46, 53]⟩) ++ ⟨#[112, 120]⟩), .bool true]) ∧ Below w.heap.size w w' := by
  go_enter Tryz.func88, Tryz.ntmps88
  go_wp2
  go_region_with (go_at_call 87; go_fit (L _); rintro e w1 ⟨rfl, hb⟩; obtain ⟨hc, hf⟩ := bcell hb)
  all_goals
    go_wp2
    go_ret2
    refine ⟨rfl, ?_⟩
    first
      | exact (below_undrew hb).alloc hb.size _
      | exact ((Below.refl w.heap.size w).alloc (Nat.le_refl _) _).trans ((below_undrew hb).mono (by simp))

set_option maxHeartbeats 2000000 in
theorem specText_neg_3 (k q r : Int) (s : ByteArray) (w : World) (g0 : 0 < k) (g1 : k ≤ 1000000) (hm : ((-k)).tmod 16 = 0) (hsz : s.size ≤ 100)
    (F1 : IntKind.i64.wrap (k.tdiv 64) = q) (F2 : k.tmod 64 = r) (F3 : IntKind.i64.wrap (r.tdiv 16) = 3)
    (L : ∀ w : World, Calls Tryz.prog 87 #[.int .i64 q] w fun e w' => e = .returned (.string s) ∧ Below w.heap.size w w') :
    Calls Tryz.prog 88 #[.int .i64 (-k)] w fun e w' => e = .returned (.tuple #[.string (⟨#[45]⟩ ++ (s ++ ⟨#[46, 55, 53]⟩) ++ ⟨#[112, 120]⟩), .bool true]) ∧ Below w.heap.size w w' := by
  go_enter Tryz.func88, Tryz.ntmps88
  go_wp2
  go_region_with (go_at_call 87; go_fit (L _); rintro e w1 ⟨rfl, hb⟩; obtain ⟨hc, hf⟩ := bcell hb)
  all_goals
    go_wp2
    go_ret2
    refine ⟨rfl, ?_⟩
    first
      | exact (below_undrew hb).alloc hb.size _
      | exact ((Below.refl w.heap.size w).alloc (Nat.le_refl _) _).trans ((below_undrew hb).mono (by simp))
end Go.Proofs.YtddnphgpdnedbaaGreatDoor

namespace Go.Proofs.YtddnphgpdnedbaaGreatDoor
open Go.ChangeShapes Go.WideShapes Go.ChangeAt Go.RowKit
set_option linter.unusedVariables false

set_option maxHeartbeats 2000000 in
theorem implText_pos_0 (k q r : Int) (s : ByteArray) (w : World) (g0 : 0 ≤ k) (g1 : k ≤ 1000000) (hm : (k).tmod 16 = 0) (hsz : s.size ≤ 100)
    (F1 : IntKind.i64.wrap (k.tdiv 64) = q) (F2 : k.tmod 64 = r) (F3 : IntKind.i64.wrap (r.tdiv 16) = 0) (hp : 7 < w.heap.size) (hq : w.cell? ⟨7, 0, none⟩ = some (.string ⟨#[]⟩))
    (L : Calls Tryz.prog 120 #[.int .i64 q] w.drew fun e w' => e = .returned (.string s) ∧ Below w.drew.heap.size w.drew w') :
    Calls Tryz.prog 121 #[.int .i64 k] w fun e w' => e = .returned (.tuple #[.string (⟨#[]⟩ ++ s ++ ⟨#[]⟩ ++ ⟨#[112, 120]⟩), .bool true]) ∧ Below w.heap.size w w' := by
  go_enter Tryz.func121, Tryz.ntmps121
  go_wp2
  go_region_with (go_at_call 120; go_fit L; rintro e w1 ⟨rfl, hb⟩; have hq1 := (hb.cell (p := ⟨7, 0, none⟩) hp).trans hq)
  all_goals
    go_wp2
    go_ret2
    exact ⟨rfl, below_undrew hb⟩

set_option maxHeartbeats 2000000 in
theorem implText_pos_1 (k q r : Int) (s : ByteArray) (w : World) (g0 : 0 ≤ k) (g1 : k ≤ 1000000) (hm : (k).tmod 16 = 0) (hsz : s.size ≤ 100)
    (F1 : IntKind.i64.wrap (k.tdiv 64) = q) (F2 : k.tmod 64 = r) (F3 : IntKind.i64.wrap (r.tdiv 16) = 1) (hp : 7 < w.heap.size) (hq : w.cell? ⟨7, 1, none⟩ = some (.string ⟨#[46, 50, 53]⟩))
    (L : Calls Tryz.prog 120 #[.int .i64 q] w.drew fun e w' => e = .returned (.string s) ∧ Below w.drew.heap.size w.drew w') :
    Calls Tryz.prog 121 #[.int .i64 k] w fun e w' => e = .returned (.tuple #[.string (⟨#[]⟩ ++ s ++ ⟨#[46, 50, 53]⟩ ++ ⟨#[112, 120]⟩), .bool true]) ∧ Below w.heap.size w w' := by
  go_enter Tryz.func121, Tryz.ntmps121
  go_wp2
  go_region_with (go_at_call 120; go_fit L; rintro e w1 ⟨rfl, hb⟩; have hq1 := (hb.cell (p := ⟨7, 1, none⟩) hp).trans hq)
  all_goals
    go_wp2
    go_ret2
    exact ⟨rfl, below_undrew hb⟩

set_option maxHeartbeats 2000000 in
theorem implText_pos_2 (k q r : Int) (s : ByteArray) (w : World) (g0 : 0 ≤ k) (g1 : k ≤ 1000000) (hm : (k).tmod 16 = 0) (hsz : s.size ≤ 100)
    (F1 : IntKind.i64.wrap (k.tdiv 64) = q) (F2 : k.tmod 64 = r) (F3 : IntKind.i64.wrap (r.tdiv 16) = 2) (hp : 7 < w.heap.size) (hq : w.cell? ⟨7, 2, none⟩ = some (.string ⟨#[46, 53]⟩))
    (L : Calls Tryz.prog 120 #[.int .i64 q] w.drew fun e w' => e = .returned (.string s) ∧ Below w.drew.heap.size w.drew w') :
    Calls Tryz.prog 121 #[.int .i64 k] w fun e w' => e = .returned (.tuple #[.string (⟨#[]⟩ ++ s ++ ⟨#[46, 53]⟩ ++ ⟨#[112, 120]⟩), .bool true]) ∧ Below w.heap.size w w' := by
  go_enter Tryz.func121, Tryz.ntmps121
  go_wp2
  go_region_with (go_at_call 120; go_fit L; rintro e w1 ⟨rfl, hb⟩; have hq1 := (hb.cell (p := ⟨7, 2, none⟩) hp).trans hq)
  all_goals
    go_wp2
    go_ret2
    exact ⟨rfl, below_undrew hb⟩

set_option maxHeartbeats 2000000 in
theorem implText_pos_3 (k q r : Int) (s : ByteArray) (w : World) (g0 : 0 ≤ k) (g1 : k ≤ 1000000) (hm : (k).tmod 16 = 0) (hsz : s.size ≤ 100)
    (F1 : IntKind.i64.wrap (k.tdiv 64) = q) (F2 : k.tmod 64 = r) (F3 : IntKind.i64.wrap (r.tdiv 16) = 3) (hp : 7 < w.heap.size) (hq : w.cell? ⟨7, 3, none⟩ = some (.string ⟨#[46, 55, 53]⟩))
    (L : Calls Tryz.prog 120 #[.int .i64 q] w.drew fun e w' => e = .returned (.string s) ∧ Below w.drew.heap.size w.drew w') :
    Calls Tryz.prog 121 #[.int .i64 k] w fun e w' => e = .returned (.tuple #[.string (⟨#[]⟩ ++ s ++ ⟨#[46, 55, 53]⟩ ++ ⟨#[112, 120]⟩), .bool true]) ∧ Below w.heap.size w w' := by
  go_enter Tryz.func121, Tryz.ntmps121
  go_wp2
  go_region_with (go_at_call 120; go_fit L; rintro e w1 ⟨rfl, hb⟩; have hq1 := (hb.cell (p := ⟨7, 3, none⟩) hp).trans hq)
  all_goals
    go_wp2
    go_ret2
    exact ⟨rfl, below_undrew hb⟩
end Go.Proofs.YtddnphgpdnedbaaGreatDoor

namespace Go.Proofs.YtddnphgpdnedbaaGreatDoor
open Go.ChangeShapes Go.WideShapes Go.ChangeAt Go.RowKit
set_option linter.unusedVariables false

set_option maxHeartbeats 2000000 in
theorem implText_neg_0 (k q r : Int) (s : ByteArray) (w : World) (g0 : 0 < k) (g1 : k ≤ 1000000) (hm : ((-k)).tmod 16 = 0) (hsz : s.size ≤ 100)
    (F1 : IntKind.i64.wrap (k.tdiv 64) = q) (F2 : k.tmod 64 = r) (F3 : IntKind.i64.wrap (r.tdiv 16) = 0) (hp : 7 < w.heap.size) (hq : w.cell? ⟨7, 0, none⟩ = some (.string ⟨#[]⟩))
    (L : Calls Tryz.prog 120 #[.int .i64 q] w.drew fun e w' => e = .returned (.string s) ∧ Below w.drew.heap.size w.drew w') :
    Calls Tryz.prog 121 #[.int .i64 (-k)] w fun e w' => e = .returned (.tuple #[.string (⟨#[45]⟩ ++ s ++ ⟨#[]⟩ ++ ⟨#[112, 120]⟩), .bool true]) ∧ Below w.heap.size w w' := by
  go_enter Tryz.func121, Tryz.ntmps121
  go_wp2
  go_region_with (go_at_call 120; go_fit L; rintro e w1 ⟨rfl, hb⟩; have hq1 := (hb.cell (p := ⟨7, 0, none⟩) hp).trans hq)
  all_goals
    go_wp2
    go_ret2
    exact ⟨rfl, below_undrew hb⟩

set_option maxHeartbeats 2000000 in
theorem implText_neg_1 (k q r : Int) (s : ByteArray) (w : World) (g0 : 0 < k) (g1 : k ≤ 1000000) (hm : ((-k)).tmod 16 = 0) (hsz : s.size ≤ 100)
    (F1 : IntKind.i64.wrap (k.tdiv 64) = q) (F2 : k.tmod 64 = r) (F3 : IntKind.i64.wrap (r.tdiv 16) = 1) (hp : 7 < w.heap.size) (hq : w.cell? ⟨7, 1, none⟩ = some (.string ⟨#[46, 50, 53]⟩))
    (L : Calls Tryz.prog 120 #[.int .i64 q] w.drew fun e w' => e = .returned (.string s) ∧ Below w.drew.heap.size w.drew w') :
    Calls Tryz.prog 121 #[.int .i64 (-k)] w fun e w' => e = .returned (.tuple #[.string (⟨#[45]⟩ ++ s ++ ⟨#[46, 50, 53]⟩ ++ ⟨#[112, 120]⟩), .bool true]) ∧ Below w.heap.size w w' := by
  go_enter Tryz.func121, Tryz.ntmps121
  go_wp2
  go_region_with (go_at_call 120; go_fit L; rintro e w1 ⟨rfl, hb⟩; have hq1 := (hb.cell (p := ⟨7, 1, none⟩) hp).trans hq)
  all_goals
    go_wp2
    go_ret2
    exact ⟨rfl, below_undrew hb⟩

set_option maxHeartbeats 2000000 in
theorem implText_neg_2 (k q r : Int) (s : ByteArray) (w : World) (g0 : 0 < k) (g1 : k ≤ 1000000) (hm : ((-k)).tmod 16 = 0) (hsz : s.size ≤ 100)
    (F1 : IntKind.i64.wrap (k.tdiv 64) = q) (F2 : k.tmod 64 = r) (F3 : IntKind.i64.wrap (r.tdiv 16) = 2) (hp : 7 < w.heap.size) (hq : w.cell? ⟨7, 2, none⟩ = some (.string ⟨#[46, 53]⟩))
    (L : Calls Tryz.prog 120 #[.int .i64 q] w.drew fun e w' => e = .returned (.string s) ∧ Below w.drew.heap.size w.drew w') :
    Calls Tryz.prog 121 #[.int .i64 (-k)] w fun e w' => e = .returned (.tuple #[.string (⟨#[45]⟩ ++ s ++ ⟨#[46, 53]⟩ ++ ⟨#[112, 120]⟩), .bool true]) ∧ Below w.heap.size w w' := by
  go_enter Tryz.func121, Tryz.ntmps121
  go_wp2
  go_region_with (go_at_call 120; go_fit L; rintro e w1 ⟨rfl, hb⟩; have hq1 := (hb.cell (p := ⟨7, 2, none⟩) hp).trans hq)
  all_goals
    go_wp2
    go_ret2
    exact ⟨rfl, below_undrew hb⟩

set_option maxHeartbeats 2000000 in
theorem implText_neg_3 (k q r : Int) (s : ByteArray) (w : World) (g0 : 0 < k) (g1 : k ≤ 1000000) (hm : ((-k)).tmod 16 = 0) (hsz : s.size ≤ 100)
    (F1 : IntKind.i64.wrap (k.tdiv 64) = q) (F2 : k.tmod 64 = r) (F3 : IntKind.i64.wrap (r.tdiv 16) = 3) (hp : 7 < w.heap.size) (hq : w.cell? ⟨7, 3, none⟩ = some (.string ⟨#[46, 55, 53]⟩))
    (L : Calls Tryz.prog 120 #[.int .i64 q] w.drew fun e w' => e = .returned (.string s) ∧ Below w.drew.heap.size w.drew w') :
    Calls Tryz.prog 121 #[.int .i64 (-k)] w fun e w' => e = .returned (.tuple #[.string (⟨#[45]⟩ ++ s ++ ⟨#[46, 55, 53]⟩ ++ ⟨#[112, 120]⟩), .bool true]) ∧ Below w.heap.size w w' := by
  go_enter Tryz.func121, Tryz.ntmps121
  go_wp2
  go_region_with (go_at_call 120; go_fit L; rintro e w1 ⟨rfl, hb⟩; have hq1 := (hb.cell (p := ⟨7, 3, none⟩) hp).trans hq)
  all_goals
    go_wp2
    go_ret2
    exact ⟨rfl, below_undrew hb⟩
end Go.Proofs.YtddnphgpdnedbaaGreatDoor

namespace Go.Proofs.YtddnphgpdnedbaaGreatDoor
open Go.ChangeShapes Go.WideShapes Go.ChangeAt Go.RowKit
set_option linter.unusedVariables false
theorem app_assoc (a b c : ByteArray) : a ++ b ++ c = a ++ (b ++ c) := ByteArray.append_assoc
theorem ret2T {a b : ByteArray} {x y : Bool} (h : a = b) (k : x = y) : Ending.returned (.tuple #[.string a, .bool x]) = .returned (.tuple #[.string b, .bool y]) := by rw [h, k]

theorem specText_no (n : Int) (w : World) (h : pixB n = false) :
    Calls Tryz.prog 88 #[.int .i64 n] w fun e w' => e = .returned (.tuple #[.string (pixText n), .bool (pixB n)]) ∧ Below w.heap.size w w' := by
  have HE : Hid (pixB n = false) := h
  have HT : Hid (pixText n = ⟨#[]⟩) := by show pixText n = _; simp [pixText, h]
  have hh : ¬ (-1000000 ≤ n ∧ n ≤ 1000000 ∧ n.tmod 16 = 0) := of_decide_eq_false h
  clear h
  by_cases h1 : -1000000 ≤ n
  · by_cases h2 : n ≤ 1000000
    · have h3 : (n.tmod 16 == 0) = false := by simp; omega
      have h3' : ¬ n.tmod 16 = 0 := by omega
      clear hh
      go_enter Tryz.func88, Tryz.ntmps88
      go_wp2
      go_ret2
      exact ⟨ret2T HT.out.symm HE.out.symm, Below.refl _ _⟩
    · clear hh
      go_enter Tryz.func88, Tryz.ntmps88
      go_wp2
      go_ret2
      exact ⟨ret2T HT.out.symm HE.out.symm, Below.refl _ _⟩
  · clear hh
    go_enter Tryz.func88, Tryz.ntmps88
    go_wp2
    go_ret2
    exact ⟨ret2T HT.out.symm HE.out.symm, Below.refl _ _⟩

theorem implText_no (n : Int) (w : World) (h : pixB n = false) :
    Calls Tryz.prog 121 #[.int .i64 n] w fun e w' => e = .returned (.tuple #[.string (pixText n), .bool (pixB n)]) ∧ Below w.heap.size w w' := by
  have HE : Hid (pixB n = false) := h
  have HT : Hid (pixText n = ⟨#[]⟩) := by show pixText n = _; simp [pixText, h]
  have hh : ¬ (-1000000 ≤ n ∧ n ≤ 1000000 ∧ n.tmod 16 = 0) := of_decide_eq_false h
  clear h
  by_cases h1 : -1000000 ≤ n
  · by_cases h2 : n ≤ 1000000
    · have h3 : (n.tmod 16 == 0) = false := by simp; omega
      have h3' : ¬ n.tmod 16 = 0 := by omega
      clear hh
      go_enter Tryz.func121, Tryz.ntmps121
      go_wp2
      go_ret2
      exact ⟨ret2T HT.out.symm HE.out.symm, Below.refl _ _⟩
    · clear hh
      go_enter Tryz.func121, Tryz.ntmps121
      go_wp2
      go_ret2
      exact ⟨ret2T HT.out.symm HE.out.symm, Below.refl _ _⟩
  · clear hh
    go_enter Tryz.func121, Tryz.ntmps121
    go_wp2
    go_ret2
    exact ⟨ret2T HT.out.symm HE.out.symm, Below.refl _ _⟩

theorem pix_yes {n : Int} (h : pixB n = true) : (-1000000 ≤ n ∧ n ≤ 1000000 ∧ n.tmod 16 = 0) ∧ pixText n = signText n ++ num (n.natAbs / 64) ++ quarter (n.natAbs % 64 / 16) ++ ⟨#[112, 120]⟩ :=
  ⟨of_decide_eq_true h, by simp [pixText, h]⟩
theorem f1 (m : Nat) (h : m ≤ 1000000) : IntKind.i64.wrap ((m : Int).tdiv 64) = ((m / 64 : Nat) : Int) := by
  rw [Int.tdiv_eq_ediv_of_nonneg (by omega), wrapI _ (by omega) (by omega)]; omega
theorem f2 (m : Nat) : (m : Int).tmod 64 = ((m % 64 : Nat) : Int) := by
  rw [Int.tmod_eq_emod_of_nonneg (by omega)]; omega
theorem f3 (m j : Nat) (h : m % 64 / 16 = j) : IntKind.i64.wrap (((m % 64 : Nat) : Int).tdiv 16) = (j : Int) := by
  rw [Int.tdiv_eq_ediv_of_nonneg (by omega), wrapI _ (by omega) (by omega)]; omega

theorem specText_any (n : Int) (w : World) :
    Calls Tryz.prog 88 #[.int .i64 n] w fun e w' => e = .returned (.tuple #[.string (pixText n), .bool (pixB n)]) ∧ Below w.heap.size w w' := by
  cases h : pixB n with
  | false => have := specText_no n w h; rwa [h] at this
  | true =>
    obtain ⟨⟨g1, g2, g3⟩, e⟩ := pix_yes h
    have hs := num_size (n.natAbs / 64) (by omega)
    have L := l1Num_any (n.natAbs / 64) (by omega)
    have hj : n.natAbs % 64 / 16 = 0 ∨ n.natAbs % 64 / 16 = 1 ∨ n.natAbs % 64 / 16 = 2 ∨ n.natAbs % 64 / 16 = 3 := by omega
    rw [e]
    by_cases hn : n < 0
    · have es : signText n = ⟨#[45]⟩ := if_pos hn
      rw [es, app_assoc ⟨#[45]⟩ (num _) (quarter _)]
      have en : n = -(n.natAbs : Int) := by omega
      have a1 := f1 n.natAbs (by omega)
      have a2 := f2 n.natAbs
      rw [en] at g3
      have : ∀ (m : Nat), m = n.natAbs → Calls Tryz.prog 88 #[.int .i64 (-(m : Int))] w fun e w' => e = .returned (.tuple #[.string (⟨#[45]⟩ ++ (num (m / 64) ++ quarter (m % 64 / 16)) ++ ⟨#[112, 120]⟩), .bool true]) ∧ Below w.heap.size w w' := by
        intro m hm
        rw [← hm] at hs L hj g3 a1 a2
        rcases hj with hj | hj | hj | hj
        · rw [hj]; exact specText_neg_0 m _ _ _ w (by omega) (by omega) g3 (by omega) a1 a2 (f3 m 0 hj) L
        · rw [hj]; exact specText_neg_1 m _ _ _ w (by omega) (by omega) g3 (by omega) a1 a2 (f3 m 1 hj) L
        · rw [hj]; exact specText_neg_2 m _ _ _ w (by omega) (by omega) g3 (by omega) a1 a2 (f3 m 2 hj) L
        · rw [hj]; exact specText_neg_3 m _ _ _ w (by omega) (by omega) g3 (by omega) a1 a2 (f3 m 3 hj) L
      have t := this n.natAbs rfl
      rw [← en] at t
      exact t
    · have es : signText n = ⟨#[]⟩ := if_neg hn
      rw [es, app_assoc ⟨#[]⟩ (num _) (quarter _)]
      have en : n = (n.natAbs : Int) := by omega
      have a1 := f1 n.natAbs (by omega)
      have a2 := f2 n.natAbs
      rw [en] at g3
      have : ∀ (m : Nat), m = n.natAbs → Calls Tryz.prog 88 #[.int .i64 (m : Int)] w fun e w' => e = .returned (.tuple #[.string (⟨#[]⟩ ++ (num (m / 64) ++ quarter (m % 64 / 16)) ++ ⟨#[112, 120]⟩), .bool true]) ∧ Below w.heap.size w w' := by
        intro m hm
        have g3' : (m : Int).tmod 16 = 0 := by rw [hm]; exact g3
        rw [← hm] at hs L hj a1 a2
        rcases hj with hj | hj | hj | hj
        · rw [hj]; exact specText_pos_0 m _ _ _ w (by omega) (by omega) g3' (by omega) a1 a2 (f3 m 0 hj) L
        · rw [hj]; exact specText_pos_1 m _ _ _ w (by omega) (by omega) g3' (by omega) a1 a2 (f3 m 1 hj) L
        · rw [hj]; exact specText_pos_2 m _ _ _ w (by omega) (by omega) g3' (by omega) a1 a2 (f3 m 2 hj) L
        · rw [hj]; exact specText_pos_3 m _ _ _ w (by omega) (by omega) g3' (by omega) a1 a2 (f3 m 3 hj) L
      have t := this n.natAbs rfl
      rw [← en] at t
      exact t

/-- The table of quarters lies as it is laid. -/
def Quarters (w : World) : Prop := 7 < w.heap.size ∧ ∀ j, j < 4 → w.cell? ⟨7, j, none⟩ = some (.string (quarter j))
theorem implText_any (n : Int) (w : World) (hQ : Quarters w) (htab : Lib.TabIs Tryz.prog w "internal/strconv.uint64pow10" .u64 Lib.pow10Tab) :
    Calls Tryz.prog 121 #[.int .i64 n] w fun e w' => e = .returned (.tuple #[.string (pixText n), .bool (pixB n)]) ∧ Below w.heap.size w w' := by
  cases h : pixB n with
  | false => have := implText_no n w h; rwa [h] at this
  | true =>
    obtain ⟨⟨g1, g2, g3⟩, e⟩ := pix_yes h
    have hs := num_size (n.natAbs / 64) (by omega)
    have L := itoa_any (n.natAbs / 64) (by omega) w.drew htab
    have hj : n.natAbs % 64 / 16 = 0 ∨ n.natAbs % 64 / 16 = 1 ∨ n.natAbs % 64 / 16 = 2 ∨ n.natAbs % 64 / 16 = 3 := by omega
    rw [e]
    by_cases hn : n < 0
    · have es : signText n = ⟨#[45]⟩ := if_pos hn
      rw [es]
      have en : n = -(n.natAbs : Int) := by omega
      have a1 := f1 n.natAbs (by omega)
      have a2 := f2 n.natAbs
      rw [en] at g3
      have : ∀ (m : Nat), m = n.natAbs → Calls Tryz.prog 121 #[.int .i64 (-(m : Int))] w fun e w' => e = .returned (.tuple #[.string (⟨#[45]⟩ ++ num (m / 64) ++ quarter (m % 64 / 16) ++ ⟨#[112, 120]⟩), .bool true]) ∧ Below w.heap.size w w' := by
        intro m hm
        rw [← hm] at hs L hj g3 a1 a2
        rcases hj with hj | hj | hj | hj
        · rw [hj]; exact implText_neg_0 m _ _ _ w (by omega) (by omega) g3 (by omega) a1 a2 (f3 m 0 hj) hQ.1 (hQ.2 0 (by omega)) L
        · rw [hj]; exact implText_neg_1 m _ _ _ w (by omega) (by omega) g3 (by omega) a1 a2 (f3 m 1 hj) hQ.1 (hQ.2 1 (by omega)) L
        · rw [hj]; exact implText_neg_2 m _ _ _ w (by omega) (by omega) g3 (by omega) a1 a2 (f3 m 2 hj) hQ.1 (hQ.2 2 (by omega)) L
        · rw [hj]; exact implText_neg_3 m _ _ _ w (by omega) (by omega) g3 (by omega) a1 a2 (f3 m 3 hj) hQ.1 (hQ.2 3 (by omega)) L
      have t := this n.natAbs rfl
      rw [← en] at t
      exact t
    · have es : signText n = ⟨#[]⟩ := if_neg hn
      rw [es]
      have en : n = (n.natAbs : Int) := by omega
      have a1 := f1 n.natAbs (by omega)
      have a2 := f2 n.natAbs
      rw [en] at g3
      have : ∀ (m : Nat), m = n.natAbs → Calls Tryz.prog 121 #[.int .i64 (m : Int)] w fun e w' => e = .returned (.tuple #[.string (⟨#[]⟩ ++ num (m / 64) ++ quarter (m % 64 / 16) ++ ⟨#[112, 120]⟩), .bool true]) ∧ Below w.heap.size w w' := by
        intro m hm
        have g3' : (m : Int).tmod 16 = 0 := by rw [hm]; exact g3
        rw [← hm] at hs L hj a1 a2
        rcases hj with hj | hj | hj | hj
        · rw [hj]; exact implText_pos_0 m _ _ _ w (by omega) (by omega) g3' (by omega) a1 a2 (f3 m 0 hj) hQ.1 (hQ.2 0 (by omega)) L
        · rw [hj]; exact implText_pos_1 m _ _ _ w (by omega) (by omega) g3' (by omega) a1 a2 (f3 m 1 hj) hQ.1 (hQ.2 1 (by omega)) L
        · rw [hj]; exact implText_pos_2 m _ _ _ w (by omega) (by omega) g3' (by omega) a1 a2 (f3 m 2 hj) hQ.1 (hQ.2 2 (by omega)) L
        · rw [hj]; exact implText_pos_3 m _ _ _ w (by omega) (by omega) g3' (by omega) a1 a2 (f3 m 3 hj) hQ.1 (hQ.2 3 (by omega)) L
      have t := this n.natAbs rfl
      rw [← en] at t
      exact t
end Go.Proofs.YtddnphgpdnedbaaGreatDoor
