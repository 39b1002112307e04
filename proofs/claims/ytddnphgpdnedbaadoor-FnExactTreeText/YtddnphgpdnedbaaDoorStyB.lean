/-
  When a style is good, as a Bool function of its fields; contracts of the model's small functions on numbers and sizes, and of the program's method 'good' on one thing of a style.
-/
import Derived.Test.YtddnphgpdnedbaaDoorFont
import Derived.Test.YtddnphgpdnedbaaDoorSty
namespace Go.Proofs.YtddnphgpdnedbaaDoor
open Go.ChangeShapes Go.WideShapes Go.ChangeAt Go.RowKit
set_option linter.unusedVariables false

def szB (a p : Bool) (n : Int) : Bool := if a then (!p && decide (n = 0)) else if p then inB (-100000) 100000 n else inB (-1000000) 1000000 n

theorem l3White_any (n : Int) (w : World) : Calls Tryd.prog 40 #[.int .i64 n] w fun e w' => e = .returned (.bool (inB 1 5 n)) ∧ w' = w := by
  go_enter Tryd.func40, Tryd.ntmps40
  go_wp2_with (go_at_call 23; refine (l1In_any _ _ _ _).mono ?_; rintro e w' ⟨rfl, rfl⟩)
  go_ret
  exact ⟨rfl, rfl⟩
theorem specLen_any (n : Int) (w : World) : Calls Tryd.prog 42 #[.int .i64 n] w fun e w' => e = .returned (.bool (inB (-1000000) 1000000 n)) ∧ w' = w := by
  go_enter Tryd.func42, Tryd.ntmps42
  go_wp2_with (go_at_call 23; refine (l1In_any _ _ _ _).mono ?_; rintro e w' ⟨rfl, rfl⟩)
  go_ret
  exact ⟨rfl, rfl⟩
theorem l4Size_any (a p : Bool) (n : Int) (w : World) : Calls Tryd.prog 41 #[.agg #[.bool a, .bool p, .int .i64 n]] w fun e w' => e = .returned (.bool (szB a p n)) ∧ Below w.heap.size w w' := by
  cases a
  · cases p
    · go_enter Tryd.func41, Tryd.ntmps41
      go_wp2_with (go_at_call 42; refine (specLen_any _ _).mono ?_; rintro e w' ⟨rfl, rfl⟩)
      go_ret
      exact ⟨rfl, (Below.refl _ _).alloc (Nat.le_refl _) _⟩
    · go_enter Tryd.func41, Tryd.ntmps41
      go_wp2_with (go_at_call 23; refine (l1In_any _ _ _ _).mono ?_; rintro e w' ⟨rfl, rfl⟩)
      go_ret
      exact ⟨rfl, (Below.refl _ _).alloc (Nat.le_refl _) _⟩
  · cases p
    · by_cases hn : n = 0
      · subst hn
        go_enter Tryd.func41, Tryd.ntmps41
        go_wp2
        go_ret
        exact ⟨rfl, (Below.refl _ _).alloc (Nat.le_refl _) _⟩
      · go_enter Tryd.func41, Tryd.ntmps41
        go_wp2
        go_ret
        exact ⟨ret_bool (by simp [szB, hn]), (Below.refl _ _).alloc (Nat.le_refl _) _⟩
    · go_enter Tryd.func41, Tryd.ntmps41
      go_wp2
      go_ret
      exact ⟨rfl, (Below.refl _ _).alloc (Nat.le_refl _) _⟩
end Go.Proofs.YtddnphgpdnedbaaDoor
