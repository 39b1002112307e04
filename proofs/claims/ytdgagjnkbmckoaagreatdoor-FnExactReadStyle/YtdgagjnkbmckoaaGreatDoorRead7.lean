/-
  The model of ReadPixels, way by way, over what its reader of hundredths answers.
-/
import Derived.Test.YtdgagjnkbmckoaaGreatDoorRead6
namespace Go.Proofs.YtdgagjnkbmckoaaGreatDoor
open Go.ChangeShapes Go.WideShapes Go.ChangeAt Go.RowKit
set_option linter.unusedVariables false

theorem specGood_any (n : Int) (w : World) : Calls Tryz.prog 29 #[.int .i64 n] w fun e w' => e = .returned (.bool (lenGood n)) ∧ w' = w := by
  by_cases h1 : -1000000 ≤ n
  · by_cases h2 : n ≤ 1000000
    · have HG : Hid (lenGood n = true) := decide_eq_true ⟨h1, h2⟩
      go_enter Tryz.func29, Tryz.ntmps29
      go_wp2
      go_ret
      exact ⟨retB HG.out.symm, rfl⟩
    · have HG : Hid (lenGood n = false) := decide_eq_false (by omega)
      go_enter Tryz.func29, Tryz.ntmps29
      go_wp2
      go_ret
      exact ⟨retB HG.out.symm, rfl⟩
  · have HG : Hid (lenGood n = false) := decide_eq_false (by omega)
    go_enter Tryz.func29, Tryz.ntmps29
    go_wp2
    go_ret
    exact ⟨retB HG.out.symm, rfl⟩

set_option maxHeartbeats 1000000 in
theorem sp_a (s : ByteArray) (w : World) (hs : s.size ≤ 1048576) (h3 : s.size < 3) :
    Calls Tryz.prog 16 #[.string s] w fun e w' => e = .returned (.tuple #[.int .i64 0, .bool false]) ∧ ∃ n, w' = w.drewN n := by
  go_enter Tryz.func16, Tryz.ntmps16
  go_wp2
  go_ret2
  exact ⟨rfl, 0, rfl⟩

set_option maxHeartbeats 1000000 in
theorem sp_b (s : ByteArray) (w : World) (hs : s.size ≤ 1048576) (h3 : 3 ≤ s.size) (hx : ((s.extract (s.size - 2) s.size).toList == [112, 120]) = false)  :
    Calls Tryz.prog 16 #[.string s] w fun e w' => e = .returned (.tuple #[.int .i64 0, .bool false]) ∧ ∃ n, w' = w.drewN n := by
  go_enter Tryz.func16, Tryz.ntmps16
  go_wp2
  go_ret2
  exact ⟨rfl, 0, rfl⟩

set_option maxHeartbeats 1000000 in
theorem sp_c (s : ByteArray) (w : World) (hs : s.size ≤ 1048576) (h3 : 3 ≤ s.size) (hx : ((s.extract (s.size - 2) s.size).toList == [112, 120]) = true) 
    (HU : ∀ w, Calls Tryz.prog 15 #[.string (s.extract 0 (s.size - 2))] w fun e w' => e = .returned (.tuple #[.int .i64 0, .bool false]) ∧ ∃ n, w' = w.drewN n) :
    Calls Tryz.prog 16 #[.string s] w fun e w' => e = .returned (.tuple #[.int .i64 0, .bool false]) ∧ ∃ n, w' = w.drewN n := by
  go_enter Tryz.func16, Tryz.ntmps16
  go_wp2_with (first | (go_at_call 15; refine (HU _).mono ?_; rintro e w' ⟨rfl, nd, rfl⟩) | go_in)
  go_ret2
  exact ⟨rfl, _, rfl⟩

set_option maxHeartbeats 1000000 in
theorem sp_d_good (s : ByteArray) (h : Int) (w : World) (hs : s.size ≤ 1048576) (h3 : 3 ≤ s.size) (hx : ((s.extract (s.size - 2) s.size).toList == [112, 120]) = true) (b0 : 0 ≤ h) (b1 : h ≤ 10000000) (g : h / 100 * 64 + h % 100 * 64 / 100 ≤ 1000000)
    (HU : ∀ w, Calls Tryz.prog 15 #[.string (s.extract 0 (s.size - 2))] w fun e w' => e = .returned (.tuple #[.int .i64 h, .bool true]) ∧ ∃ n, w' = w.drewN n) :
    Calls Tryz.prog 16 #[.string s] w fun e w' => e = .returned (.tuple #[.int .i64 (h / 100 * 64 + h % 100 * 64 / 100), .bool true]) ∧ ∃ n, w' = w.drewN n := by
  have e : lenGood (h / 100 * 64 + h % 100 * 64 / 100) = true := decide_eq_true (by omega)
  have GL := fun w => specGood_any (h / 100 * 64 + h % 100 * 64 / 100) w
  rw [e] at GL
  clear e g
  go_enter Tryz.func16, Tryz.ntmps16
  go_wp2_with (first | (go_at_call 15; refine (HU _).mono ?_; rintro e w' ⟨rfl, nd, rfl⟩) | (go_at_call 29; refine (GL _).mono ?_; rintro e w' ⟨rfl, rfl⟩))
  go_ret2
  exact ⟨rfl, _, rfl⟩

set_option maxHeartbeats 1000000 in
theorem sp_d_bad (s : ByteArray) (h : Int) (w : World) (hs : s.size ≤ 1048576) (h3 : 3 ≤ s.size) (hx : ((s.extract (s.size - 2) s.size).toList == [112, 120]) = true) (b0 : 0 ≤ h) (b1 : h ≤ 10000000) (g : ¬ h / 100 * 64 + h % 100 * 64 / 100 ≤ 1000000)
    (HU : ∀ w, Calls Tryz.prog 15 #[.string (s.extract 0 (s.size - 2))] w fun e w' => e = .returned (.tuple #[.int .i64 h, .bool true]) ∧ ∃ n, w' = w.drewN n) :
    Calls Tryz.prog 16 #[.string s] w fun e w' => e = .returned (.tuple #[.int .i64 0, .bool false]) ∧ ∃ n, w' = w.drewN n := by
  have e : lenGood (h / 100 * 64 + h % 100 * 64 / 100) = false := decide_eq_false (by omega)
  have GL := fun w => specGood_any (h / 100 * 64 + h % 100 * 64 / 100) w
  rw [e] at GL
  clear e g
  go_enter Tryz.func16, Tryz.ntmps16
  go_wp2_with (first | (go_at_call 15; refine (HU _).mono ?_; rintro e w' ⟨rfl, nd, rfl⟩) | (go_at_call 29; refine (GL _).mono ?_; rintro e w' ⟨rfl, rfl⟩))
  go_ret2
  exact ⟨rfl, _, rfl⟩

set_option maxHeartbeats 1000000 in
theorem sp_e_good (s : ByteArray) (k : Int) (w : World) (hs : s.size ≤ 1048576) (h3 : 3 ≤ s.size) (hx : ((s.extract (s.size - 2) s.size).toList == [112, 120]) = true) (b0 : 0 < k) (b1 : k ≤ 10000000) (g : k / 100 * 64 + k % 100 * 64 / 100 ≤ 1000000)
    (HU : ∀ w, Calls Tryz.prog 15 #[.string (s.extract 0 (s.size - 2))] w fun e w' => e = .returned (.tuple #[.int .i64 (-k), .bool true]) ∧ ∃ n, w' = w.drewN n) :
    Calls Tryz.prog 16 #[.string s] w fun e w' => e = .returned (.tuple #[.int .i64 (-(k / 100 * 64 + k % 100 * 64 / 100)), .bool true]) ∧ ∃ n, w' = w.drewN n := by
  have e : lenGood (-(k / 100 * 64 + k % 100 * 64 / 100)) = true := decide_eq_true (by omega)
  have GL := fun w => specGood_any (-(k / 100 * 64 + k % 100 * 64 / 100)) w
  rw [e] at GL
  clear e g
  go_enter Tryz.func16, Tryz.ntmps16
  go_wp2_with (first | (go_at_call 15; refine (HU _).mono ?_; rintro e w' ⟨rfl, nd, rfl⟩) | (go_at_call 29; refine (GL _).mono ?_; rintro e w' ⟨rfl, rfl⟩))
  go_ret2
  exact ⟨rfl, _, rfl⟩

set_option maxHeartbeats 1000000 in
theorem sp_e_bad (s : ByteArray) (k : Int) (w : World) (hs : s.size ≤ 1048576) (h3 : 3 ≤ s.size) (hx : ((s.extract (s.size - 2) s.size).toList == [112, 120]) = true) (b0 : 0 < k) (b1 : k ≤ 10000000) (g : ¬ k / 100 * 64 + k % 100 * 64 / 100 ≤ 1000000)
    (HU : ∀ w, Calls Tryz.prog 15 #[.string (s.extract 0 (s.size - 2))] w fun e w' => e = .returned (.tuple #[.int .i64 (-k), .bool true]) ∧ ∃ n, w' = w.drewN n) :
    Calls Tryz.prog 16 #[.string s] w fun e w' => e = .returned (.tuple #[.int .i64 0, .bool false]) ∧ ∃ n, w' = w.drewN n := by
  have e : lenGood (-(k / 100 * 64 + k % 100 * 64 / 100)) = false := decide_eq_false (by omega)
  have GL := fun w => specGood_any (-(k / 100 * 64 + k % 100 * 64 / 100)) w
  rw [e] at GL
  clear e g
  go_enter Tryz.func16, Tryz.ntmps16
  go_wp2_with (first | (go_at_call 15; refine (HU _).mono ?_; rintro e w' ⟨rfl, nd, rfl⟩) | (go_at_call 29; refine (GL _).mono ?_; rintro e w' ⟨rfl, rfl⟩))
  go_ret2
  exact ⟨rfl, _, rfl⟩
end Go.Proofs.YtdgagjnkbmckoaaGreatDoor
