/-
  Contracts of a font's small functions, of the program and of its model: a number between two, a good font, the law's own copy of a font; for every five ints.
-/
import Derived.Test.YtddnphgpdnedbaaDoorRows
import Derived.WalkKit
import Derived.ProofKit
import Derived.OpenShut
import Derived.WalkSpells
import Derived.WalkLawsBesides
import Derived.Deep.QuietTactic
import Derived.BigQuiet
namespace Go.Proofs.YtddnphgpdnedbaaDoor
open Go.ChangeShapes Go.WideShapes Go.ChangeAt Go.RowKit
set_option linter.unusedVariables false

/-- Between two numbers, both of them too. -/
def inB (lo hi n : Int) : Bool := decide (lo ≤ n ∧ n ≤ hi)
theorem inB_yes {lo hi n : Int} (h : inB lo hi n = true) : lo ≤ n ∧ n ≤ hi := of_decide_eq_true h
theorem inB_no {lo hi n : Int} (h : inB lo hi n = false) : ¬ (lo ≤ n ∧ n ≤ hi) := of_decide_eq_false h
theorem below_drewN {B : Nat} {a w : World} (h : Below B a w) (n : Nat) : Below B a (w.drewN n) := ⟨h.os, h.tape, h.output, h.size, h.block⟩
theorem ret_bool {a b : Bool} (h : a = b) : Ending.returned (.bool a) = .returned (.bool b) := by rw [h]

theorem l1In_any (n lo hi : Int) (w : World) : Calls Tryd.prog 23 #[.int .i64 n, .int .i64 lo, .int .i64 hi] w fun e w' => e = .returned (.bool (inB lo hi n)) ∧ w' = w := by
  by_cases h1 : lo ≤ n <;> by_cases h2 : n ≤ hi <;>
  · go_enter Tryd.func23, Tryd.ntmps23
    go_wp2
    go_ret
    exact ⟨ret_bool (by simp [inB, h1, h2]), rfl⟩

/-- A good font. -/
def fontB (fa fd fn fu fb : Int) : Bool := decide (0 ≤ fa ∧ fa ≤ 6400 ∧ 0 ≤ fd ∧ fd ≤ 6400 ∧ 1 ≤ fn ∧ fn ≤ 6400 ∧ 1 ≤ fu ∧ fu ≤ 6400 ∧ 1 ≤ fb ∧ fb ≤ 6400)
theorem fontB_yes {fa fd fn fu fb : Int} (h : fontB fa fd fn fu fb = true) : 0 ≤ fa ∧ fa ≤ 6400 ∧ 0 ≤ fd ∧ fd ≤ 6400 ∧ 1 ≤ fn ∧ fn ≤ 6400 ∧ 1 ≤ fu ∧ fu ≤ 6400 ∧ 1 ≤ fb ∧ fb ≤ 6400 := of_decide_eq_true h
theorem fontB_mk {fa fd fn fu fb : Int} (h : 0 ≤ fa ∧ fa ≤ 6400 ∧ 0 ≤ fd ∧ fd ≤ 6400 ∧ 1 ≤ fn ∧ fn ≤ 6400 ∧ 1 ≤ fu ∧ fu ≤ 6400 ∧ 1 ≤ fb ∧ fb ≤ 6400) : true = fontB fa fd fn fu fb := (decide_eq_true h).symm
theorem fontB_not {fa fd fn fu fb : Int} (h : ¬ (0 ≤ fa ∧ fa ≤ 6400 ∧ 0 ≤ fd ∧ fd ≤ 6400 ∧ 1 ≤ fn ∧ fn ≤ 6400 ∧ 1 ≤ fu ∧ fu ≤ 6400 ∧ 1 ≤ fb ∧ fb ≤ 6400)) : false = fontB fa fd fn fu fb := (decide_eq_false h).symm
theorem good_cond (fa fd fn fu fb : Int) : (inB 0 6400 fa && inB 0 6400 fd && inB 1 6400 fn && inB 1 6400 fu && inB 1 6400 fb) = fontB fa fd fn fu fb := by
  rw [Bool.eq_iff_iff]
  simp only [Bool.and_eq_true, inB, fontB, decide_eq_true_eq]
  omega

/-- The first k of a font's parts lie between 0 and 6400. -/
def partsOk (fa fd fn fu fb : Int) (k : Nat) : Prop := (0 < k → 0 ≤ fa ∧ fa ≤ 6400) ∧ (1 < k → 0 ≤ fd ∧ fd ≤ 6400) ∧ (2 < k → 0 ≤ fn ∧ fn ≤ 6400) ∧ (3 < k → 0 ≤ fu ∧ fu ≤ 6400) ∧ (4 < k → 0 ≤ fb ∧ fb ≤ 6400)

end Go.Proofs.YtddnphgpdnedbaaDoor
