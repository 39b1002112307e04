/-
  A size in what is around: the model's and the program's, for every size and every base.
-/
import Derived.Test.YtijondjiehoafaaDoorWdP
import Derived.Test.YtijondjiehoafaaDoorStyN
namespace Go.Proofs.YtijondjiehoafaaDoor
open Go.ChangeShapes Go.WideShapes Go.ChangeAt Go.RowKit
set_option linter.unusedVariables false

theorem prod_bd6 (b n : Int) (h1 : 0 ≤ b) (h2 : b ≤ 1000000) (h3 : -1000000 ≤ n) (h4 : n ≤ 1000000) : -1000000000000 ≤ b * n ∧ b * n ≤ 1000000000000 := by
  have e := Int.natAbs_mul b n
  have l : b.natAbs * n.natAbs ≤ 1000000 * 1000000 := Nat.mul_le_mul (by omega) (by omega)
  omega
theorem quot_bd6 (m : Int) (h1 : -1000000000000 ≤ m) (h2 : m ≤ 1000000000000) : -100000000 ≤ m.tdiv 10000 ∧ m.tdiv 10000 ≤ 100000000 := by
  have e : (m.tdiv 10000).natAbs = m.natAbs / 10000 := Int.natAbs_tdiv m 10000
  omega
theorem wrap6 {x : Int} (h0 : -9223372036854775808 ≤ x) (h1 : x ≤ 9223372036854775807) : IntKind.i64.wrap x = x := by
  rw [IntKind.wrap_i64]; omega
theorem ret_int6 {a b : Int} (h : a = b) : Ending.returned (.int .i64 a) = .returned (.int .i64 b) := by rw [h]

set_option maxHeartbeats 1000000 in
theorem l6Size_any (a p : Bool) (n b : Int) (w : World) (h1 : 0 ≤ b) (h2 : b ≤ 1000000) (h3 : -1000000 ≤ n) (h4 : n ≤ 1000000) :
    Calls Tryd.prog 30 #[.agg #[.bool a, .bool p, .int .i64 n], .int .i64 b] w fun e w' => e = .returned (.int .i64 (szN p n b)) ∧ Below w.heap.size w w' := by
  cases p
  · go_enter Tryd.func30, Tryd.ntmps30
    go_wp2
    go_ret
    exact ⟨rfl, (Below.refl _ _).alloc (Nat.le_refl _) _⟩
  · obtain ⟨m1, m2⟩ := prod_bd6 b n h1 h2 h3 h4
    obtain ⟨q1, q2⟩ := quot_bd6 (b * n) m1 m2
    by_cases ht : (b * n).tmod 10000 < 0
    · have HD : Hid (down (b * n) 10000 = (b * n).tdiv 10000 - 1) := down_lo ht
      go_enter Tryd.func30, Tryd.ntmps30
      go_wp2
      go_ret
      exact ⟨ret_int6 (by show _ = down (b * n) 10000; rw [HD.out]), (Below.refl _ _).alloc (Nat.le_refl _) _⟩
    · have HD : Hid (down (b * n) 10000 = (b * n).tdiv 10000) := down_hi ht
      go_enter Tryd.func30, Tryd.ntmps30
      go_wp2
      go_ret
      exact ⟨ret_int6 (by show _ = down (b * n) 10000; rw [HD.out]), (Below.refl _ _).alloc (Nat.le_refl _) _⟩

theorem isExtent_any (n : Int) (w : World) : Calls Tryd.prog 37 #[.int .i64 n] w fun e w' => e = .returned (.bool (inB 0 1000000 n)) ∧ w' = w := by
  by_cases h1 : 0 ≤ n
  · by_cases h2 : n ≤ 1000000
    · go_enter Tryd.func37, Tryd.ntmps37
      go_wp2
      go_ret
      exact ⟨ret_bool (inB_is ⟨h1, h2⟩), rfl⟩
    · go_enter Tryd.func37, Tryd.ntmps37
      go_wp2
      go_ret
      exact ⟨ret_bool (inB_not (by omega)), rfl⟩
  · go_enter Tryd.func37, Tryd.ntmps37
    go_wp2
    go_ret
    exact ⟨ret_bool (inB_not (by omega)), rfl⟩
def told6N (n : Int) : Int := if inB (-1000000) 1000000 n then n else 0
def told6 (n : Int) : Value := .tuple #[.int .i64 (told6N n), .bool (inB (-1000000) 1000000 n)]
theorem told6_yes {n : Int} (h : inB (-1000000) 1000000 n = true) : Value.tuple #[.int .i64 n, .bool true] = told6 n := by simp [told6, told6N, h]
theorem told6_no {n : Int} (h : inB (-1000000) 1000000 n = false) : Value.tuple #[.int .i64 0, .bool false] = told6 n := by simp [told6, told6N, h]
theorem told6_any (n : Int) (w : World) : Calls Tryd.prog 57 #[.int .i64 n] w fun e w' => e = .returned (told6 n) ∧ w' = w := by
  by_cases h1 : -1000000 ≤ n
  · by_cases h2 : n ≤ 1000000
    · have H : Hid (inB (-1000000) 1000000 n = true) := decide_eq_true ⟨h1, h2⟩
      go_enter Tryd.func57, Tryd.ntmps57
      go_wp2
      go_ret2
      exact ⟨congrArg Ending.returned (told6_yes H.out), rfl⟩
    · have H : Hid (inB (-1000000) 1000000 n = false) := decide_eq_false (fun h => h2 h.2)
      go_enter Tryd.func57, Tryd.ntmps57
      go_wp2
      go_ret2
      exact ⟨congrArg Ending.returned (told6_no H.out), rfl⟩
  · have H : Hid (inB (-1000000) 1000000 n = false) := decide_eq_false (fun h => h1 h.1)
    go_enter Tryd.func57, Tryd.ntmps57
    go_wp2
    go_ret2
    exact ⟨congrArg Ending.returned (told6_no H.out), rfl⟩
theorem sin_len {n b : Int} (h : inB 0 1000000 b = true) : told6 n = sinV false false n b := by
  have e : sinB false false n b = inB (-1000000) 1000000 n := by simp [sinB, szB, szN, h]
  simp [told6, told6N, sinV, sinN, e, szN]
end Go.Proofs.YtijondjiehoafaaDoor
