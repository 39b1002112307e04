/-
  Contracts of PercentOf and of its model: both answer pct of the base and the percent, for every two ints.
-/
import Derived.Test.YtijondjiehoafaaDoorRows
import Derived.WalkKit
import Derived.ProofKit
import Derived.OpenShut
namespace Go.Proofs.YtijondjiehoafaaDoor
open Go.ChangeShapes Go.WideShapes Go.ChangeAt Go.RowKit
theorem prod_bd (a b : Int) (h1 : -1000000 ≤ a) (h2 : a ≤ 1000000) (h3 : -100000 ≤ b) (h4 : b ≤ 100000) : -100000000000 ≤ a * b ∧ a * b ≤ 100000000000 := by
  have e := Int.natAbs_mul a b
  have l : a.natAbs * b.natAbs ≤ 1000000 * 100000 := Nat.mul_le_mul (by omega) (by omega)
  omega
theorem quot_bd (m : Int) (h1 : -100000000000 ≤ m) (h2 : m ≤ 100000000000) : -10000000 ≤ m.tdiv 10000 ∧ m.tdiv 10000 ≤ 10000000 := by
  have e : (m.tdiv 10000).natAbs = m.natAbs / 10000 := Int.natAbs_tdiv m 10000
  omega

/-- A quotient, down. -/
def down (a b : Int) : Int := if a.tmod b < 0 then a.tdiv b - 1 else a.tdiv b
theorem down_lo {a b : Int} (h : a.tmod b < 0) : down a b = a.tdiv b - 1 := if_pos h
theorem down_hi {a b : Int} (h : ¬ a.tmod b < 0) : down a b = a.tdiv b := if_neg h
def pctB (a b : Int) : Bool := decide (-1000000 ≤ a ∧ a ≤ 1000000 ∧ -100000 ≤ b ∧ b ≤ 100000 ∧ -1000000 ≤ down (a * b) 10000 ∧ down (a * b) 10000 ≤ 1000000)
def pctN (a b : Int) : Int := if pctB a b then down (a * b) 10000 else 0
/-- What PercentOf answers. -/
def pct (a b : Int) : Value := .tuple #[.int .i64 (pctN a b), .bool (pctB a b)]
theorem pct_no {a b : Int} (h : ¬ (-1000000 ≤ a ∧ a ≤ 1000000 ∧ -100000 ≤ b ∧ b ≤ 100000 ∧ -1000000 ≤ down (a * b) 10000 ∧ down (a * b) 10000 ≤ 1000000)) : Value.tuple #[.int .i64 0, .bool false] = pct a b := by
  have e : pctB a b = false := decide_eq_false h
  simp [pct, pctN, e]
theorem pct_yes {a b n : Int} (h : -1000000 ≤ a ∧ a ≤ 1000000 ∧ -100000 ≤ b ∧ b ≤ 100000 ∧ -1000000 ≤ down (a * b) 10000 ∧ down (a * b) 10000 ≤ 1000000) (hn : n = down (a * b) 10000) : Value.tuple #[.int .i64 n, .bool true] = pct a b := by
  have e : pctB a b = true := decide_eq_true h
  simp [pct, pctN, e, hn]

set_option maxHeartbeats 2000000 in
theorem spec_pct (a b : Int) (w : World) : Calls Tryd.prog 27 #[.int .i64 a, .int .i64 b] w fun e w' => e = .returned (pct a b) ∧ w' = w := by
  by_cases h1 : -1000000 ≤ a
  rotate_left
  · go_enter Tryd.func27, Tryd.ntmps27
    go_wp2
    go_ret2
    exact ⟨congrArg Ending.returned (pct_no (a := a) (b := b) (by omega)), rfl⟩
  by_cases h2 : a ≤ 1000000
  rotate_left
  · go_enter Tryd.func27, Tryd.ntmps27
    go_wp2
    go_ret2
    exact ⟨congrArg Ending.returned (pct_no (a := a) (b := b) (by omega)), rfl⟩
  by_cases h3 : -100000 ≤ b
  rotate_left
  · go_enter Tryd.func27, Tryd.ntmps27
    go_wp2
    go_ret2
    exact ⟨congrArg Ending.returned (pct_no (a := a) (b := b) (by omega)), rfl⟩
  by_cases h4 : b ≤ 100000
  rotate_left
  · go_enter Tryd.func27, Tryd.ntmps27
    go_wp2
    go_ret2
    exact ⟨congrArg Ending.returned (pct_no (a := a) (b := b) (by omega)), rfl⟩
  obtain ⟨m1, m2⟩ := prod_bd a b h1 h2 h3 h4
  obtain ⟨q1, q2⟩ := quot_bd (a * b) m1 m2
  by_cases ht : (a * b).tmod 10000 < 0
  · have HD : Hid (down (a * b) 10000 = (a * b).tdiv 10000 - 1) := down_lo ht
    by_cases h5 : -1000000 ≤ (a * b).tdiv 10000 - 1
    · by_cases h6 : (a * b).tdiv 10000 - 1 ≤ 1000000
      · go_enter Tryd.func27, Tryd.ntmps27
        go_wp2
        go_ret2
        exact ⟨congrArg Ending.returned (pct_yes (a := a) (b := b) (by rw [HD.out]; omega) HD.out.symm), rfl⟩
      · go_enter Tryd.func27, Tryd.ntmps27
        go_wp2
        go_ret2
        exact ⟨congrArg Ending.returned (pct_no (a := a) (b := b) (by rw [HD.out]; omega)), rfl⟩
    · go_enter Tryd.func27, Tryd.ntmps27
      go_wp2
      go_ret2
      exact ⟨congrArg Ending.returned (pct_no (a := a) (b := b) (by rw [HD.out]; omega)), rfl⟩
  · have HD : Hid (down (a * b) 10000 = (a * b).tdiv 10000) := down_hi ht
    by_cases h5 : -1000000 ≤ (a * b).tdiv 10000
    · by_cases h6 : (a * b).tdiv 10000 ≤ 1000000
      · go_enter Tryd.func27, Tryd.ntmps27
        go_wp2
        go_ret2
        exact ⟨congrArg Ending.returned (pct_yes (a := a) (b := b) (by rw [HD.out]; omega) HD.out.symm), rfl⟩
      · go_enter Tryd.func27, Tryd.ntmps27
        go_wp2
        go_ret2
        exact ⟨congrArg Ending.returned (pct_no (a := a) (b := b) (by rw [HD.out]; omega)), rfl⟩
    · go_enter Tryd.func27, Tryd.ntmps27
      go_wp2
      go_ret2
      exact ⟨congrArg Ending.returned (pct_no (a := a) (b := b) (by rw [HD.out]; omega)), rfl⟩

set_option maxHeartbeats 2000000 in
theorem impl_pct (a b : Int) (w : World) : Calls Tryd.prog 26 #[.int .i64 a, .int .i64 b] w fun e w' => e = .returned (pct a b) ∧ w' = w := by
  by_cases h1 : -1000000 ≤ a
  rotate_left
  · go_enter Tryd.func26, Tryd.ntmps26
    go_wp2
    go_ret2
    exact ⟨congrArg Ending.returned (pct_no (a := a) (b := b) (by omega)), rfl⟩
  by_cases h2 : a ≤ 1000000
  rotate_left
  · go_enter Tryd.func26, Tryd.ntmps26
    go_wp2
    go_ret2
    exact ⟨congrArg Ending.returned (pct_no (a := a) (b := b) (by omega)), rfl⟩
  by_cases h3 : -100000 ≤ b
  rotate_left
  · go_enter Tryd.func26, Tryd.ntmps26
    go_wp2
    go_ret2
    exact ⟨congrArg Ending.returned (pct_no (a := a) (b := b) (by omega)), rfl⟩
  by_cases h4 : b ≤ 100000
  rotate_left
  · go_enter Tryd.func26, Tryd.ntmps26
    go_wp2
    go_ret2
    exact ⟨congrArg Ending.returned (pct_no (a := a) (b := b) (by omega)), rfl⟩
  obtain ⟨m1, m2⟩ := prod_bd a b h1 h2 h3 h4
  obtain ⟨q1, q2⟩ := quot_bd (a * b) m1 m2
  by_cases ht : (a * b).tmod 10000 < 0
  · have HD : Hid (down (a * b) 10000 = (a * b).tdiv 10000 - 1) := down_lo ht
    by_cases h5 : -1000000 ≤ (a * b).tdiv 10000 - 1
    · by_cases h6 : (a * b).tdiv 10000 - 1 ≤ 1000000
      · go_enter Tryd.func26, Tryd.ntmps26
        go_wp2
        go_ret2
        exact ⟨congrArg Ending.returned (pct_yes (a := a) (b := b) (by rw [HD.out]; omega) HD.out.symm), rfl⟩
      · go_enter Tryd.func26, Tryd.ntmps26
        go_wp2
        go_ret2
        exact ⟨congrArg Ending.returned (pct_no (a := a) (b := b) (by rw [HD.out]; omega)), rfl⟩
    · go_enter Tryd.func26, Tryd.ntmps26
      go_wp2
      go_ret2
      exact ⟨congrArg Ending.returned (pct_no (a := a) (b := b) (by rw [HD.out]; omega)), rfl⟩
  · have HD : Hid (down (a * b) 10000 = (a * b).tdiv 10000) := down_hi ht
    by_cases h5 : -1000000 ≤ (a * b).tdiv 10000
    · by_cases h6 : (a * b).tdiv 10000 ≤ 1000000
      · go_enter Tryd.func26, Tryd.ntmps26
        go_wp2
        go_ret2
        exact ⟨congrArg Ending.returned (pct_yes (a := a) (b := b) (by rw [HD.out]; omega) HD.out.symm), rfl⟩
      · go_enter Tryd.func26, Tryd.ntmps26
        go_wp2
        go_ret2
        exact ⟨congrArg Ending.returned (pct_no (a := a) (b := b) (by rw [HD.out]; omega)), rfl⟩
    · go_enter Tryd.func26, Tryd.ntmps26
      go_wp2
      go_ret2
      exact ⟨congrArg Ending.returned (pct_no (a := a) (b := b) (by rw [HD.out]; omega)), rfl⟩

theorem down_is (a : Int) : down a 10000 = a / 10000 := by
  have h1 := Int.mul_tdiv_add_tmod a 10000
  have h2 := Int.tmod_lt_of_pos a (show (0 : Int) < 10000 by omega)
  have h3 : -10000 < a.tmod 10000 := Int.lt_tmod_of_pos a (show (0 : Int) < 10000 by omega)
  unfold down
  split <;> omega
/-- A greater percent is no less of what is not below 0. -/
theorem pct_mono {a p : Int} (h0 : 0 ≤ a) (h1 : pctB a p = true) (h2 : pctB a (p + 1) = true) : pctN a p ≤ pctN a (p + 1) := by
  have e1 : pctN a p = down (a * p) 10000 := by simp [pctN, h1]
  have e2 : pctN a (p + 1) = down (a * (p + 1)) 10000 := by simp [pctN, h2]
  rw [e1, e2, down_is, down_is, Int.mul_add, Int.mul_one]
  generalize a * p = x
  omega
theorem pct_bd {a p : Int} (h1 : pctB a p = true) : -100000 ≤ p ∧ p ≤ 100000 := by
  have := of_decide_eq_true h1
  omega
end Go.Proofs.YtijondjiehoafaaDoor
