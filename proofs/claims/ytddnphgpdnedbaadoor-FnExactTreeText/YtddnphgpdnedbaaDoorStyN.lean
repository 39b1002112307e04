/-
  The program's method 'good' on one thing of a style: a number between its limits; a size by its own rule.
-/
import Derived.Test.YtddnphgpdnedbaaDoorStyB
import Derived.Deep.RegionHeld3
namespace Go.Proofs.YtddnphgpdnedbaaDoor
open Go.ChangeShapes Go.WideShapes Go.ChangeAt Go.RowKit
set_option linter.unusedVariables false

theorem inB_is {lo hi n : Int} (h : lo ≤ n ∧ n ≤ hi) : true = inB lo hi n := (decide_eq_true h).symm
theorem inB_not {lo hi n : Int} (h : ¬ (lo ≤ n ∧ n ≤ hi)) : false = inB lo hi n := (decide_eq_false h).symm
def szT (lo hi : Int) (np a p : Bool) (n : Int) : Bool := if a then (decide (n = 0) && !p) else if p then (!np && decide (max lo (-100000) ≤ n) && decide (n ≤ 100000)) else inB lo hi n

set_option maxHeartbeats 2000000 in
theorem goodN_any (nm : ByteArray) (b o : Nat) (lo hi n : Int) (np : Bool) (w : World) (hc : w.cell? ⟨b, o, none⟩ = some (.int .i64 n)) :
    Calls Tryd.prog 70 #[.agg #[.string nm, .pointer (some ⟨b, o, none⟩), .pointer none, .int .i64 lo, .int .i64 hi, .bool np]] w fun e w' => e = .returned (.bool (inB lo hi n)) ∧ Below w.heap.size w w' := by
  have hb : b < w.heap.size := World.block_lt_of_cell? _ ⟨b, o, none⟩ hc
  by_cases h1 : lo ≤ n
  · by_cases h2 : n ≤ hi
    · go_enter Tryd.func70, Tryd.ntmps70
      go_wp2
      go_quiet (fail)
      all_goals
        go_wp2
        go_ret
        exact ⟨ret_bool (inB_is (by omega)), below_drewN ((Below.refl _ _).alloc (Nat.le_refl _) _) _⟩
    · have hd : decide (n ≤ hi) = false := by simpa using h2
      go_enter Tryd.func70, Tryd.ntmps70
      go_wp2
      go_quiet (fail)
      all_goals
        go_wp2
        go_ret
        exact ⟨ret_bool (inB_not (by omega)), below_drewN ((Below.refl _ _).alloc (Nat.le_refl _) _) _⟩
  · have hd : decide (lo ≤ n) = false := by simpa using h1
    go_enter Tryd.func70, Tryd.ntmps70
    go_wp2
    go_quiet (fail)
    all_goals
      go_wp2
      go_ret
      exact ⟨ret_bool (inB_not (by omega)), below_drewN ((Below.refl _ _).alloc (Nat.le_refl _) _) _⟩

set_option maxHeartbeats 2000000 in
theorem goodS_any (nm : ByteArray) (b o : Nat) (lo hi n : Int) (np a p : Bool) (w : World) (hc0 : w.cell? ⟨b, o, none⟩ = some (.bool a)) (hc1 : w.cell? ⟨b, o + 1, none⟩ = some (.bool p)) (hc2 : w.cell? ⟨b, o + 2, none⟩ = some (.int .i64 n)) :
    Calls Tryd.prog 70 #[.agg #[.string nm, .pointer none, .pointer (some ⟨b, o, none⟩), .int .i64 lo, .int .i64 hi, .bool np]] w fun e w' => e = .returned (.bool (szT lo hi np a p n)) ∧ Below w.heap.size w w' := by
  have hb : b < w.heap.size := World.block_lt_of_cell? _ ⟨b, o, none⟩ hc0
  cases a
  · cases p
    · by_cases h1 : lo ≤ n
      · by_cases h2 : n ≤ hi
        · go_enter Tryd.func70, Tryd.ntmps70
          go_wp2
          go_ret
          exact ⟨ret_bool (inB_is (by omega)), (Below.refl _ _).alloc (Nat.le_refl _) _⟩
        · go_enter Tryd.func70, Tryd.ntmps70
          go_wp2
          go_ret
          exact ⟨ret_bool (inB_not (by omega)), (Below.refl _ _).alloc (Nat.le_refl _) _⟩
      · have hd : decide (lo ≤ n) = false := by simpa using h1
        go_enter Tryd.func70, Tryd.ntmps70
        go_wp2
        go_ret
        exact ⟨ret_bool (inB_not (by omega)), (Below.refl _ _).alloc (Nat.le_refl _) _⟩
    · cases np
      · by_cases hlo : -100000 ≤ lo
        · have hm : max lo (-100000) = lo := by omega
          by_cases h1 : lo ≤ n
          · by_cases h2 : n ≤ 100000
            · go_enter Tryd.func70, Tryd.ntmps70
              go_wp2
              go_ret
              exact ⟨ret_bool (by simp [szT]; omega), (Below.refl _ _).alloc (Nat.le_refl _) _⟩
            · go_enter Tryd.func70, Tryd.ntmps70
              go_wp2
              go_ret
              exact ⟨ret_bool (by simp [szT]; omega), (Below.refl _ _).alloc (Nat.le_refl _) _⟩
          · go_enter Tryd.func70, Tryd.ntmps70
            go_wp2
            go_ret
            exact ⟨ret_bool (by simp [szT]; omega), (Below.refl _ _).alloc (Nat.le_refl _) _⟩
        · have hm : max lo (-100000) = -100000 := by omega
          by_cases h1 : -100000 ≤ n
          · by_cases h2 : n ≤ 100000
            · go_enter Tryd.func70, Tryd.ntmps70
              go_wp2
              go_ret
              exact ⟨ret_bool (by simp [szT]; omega), (Below.refl _ _).alloc (Nat.le_refl _) _⟩
            · go_enter Tryd.func70, Tryd.ntmps70
              go_wp2
              go_ret
              exact ⟨ret_bool (by simp [szT]; omega), (Below.refl _ _).alloc (Nat.le_refl _) _⟩
          · go_enter Tryd.func70, Tryd.ntmps70
            go_wp2
            go_ret
            exact ⟨ret_bool (by simp [szT]; omega), (Below.refl _ _).alloc (Nat.le_refl _) _⟩
      · go_enter Tryd.func70, Tryd.ntmps70
        go_wp2
        go_ret
        exact ⟨rfl, (Below.refl _ _).alloc (Nat.le_refl _) _⟩
  · by_cases hn : n = 0
    · subst hn
      cases p
      · go_enter Tryd.func70, Tryd.ntmps70
        go_wp2
        go_ret
        exact ⟨rfl, (Below.refl _ _).alloc (Nat.le_refl _) _⟩
      · go_enter Tryd.func70, Tryd.ntmps70
        go_wp2
        go_ret
        exact ⟨rfl, (Below.refl _ _).alloc (Nat.le_refl _) _⟩
    · go_enter Tryd.func70, Tryd.ntmps70
      go_wp2
      go_ret
      exact ⟨ret_bool (by simp [szT, hn]), (Below.refl _ _).alloc (Nat.le_refl _) _⟩
end Go.Proofs.YtddnphgpdnedbaaDoor
