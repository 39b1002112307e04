/-
  Contracts of a font's small functions, of the program and of its model: a number between two, a good font, the law's own copy of a font; for every five ints.
-/
import Derived.Test.YtllkbokkhdomoabDoorRRRows
import Derived.WalkKit
import Derived.ProofKit
import Derived.OpenShut
import Derived.WalkSpells
import Derived.WalkLawsBesides
import Derived.Deep.QuietTactic
import Derived.BigQuiet
namespace Go.Proofs.YtllkbokkhdomoabDoorRR
open Go.ChangeShapes Go.WideShapes Go.ChangeAt Go.RowKit
set_option linter.unusedVariables false

/-- Between two numbers, both of them too. -/
def inB (lo hi n : Int) : Bool := decide (lo ≤ n ∧ n ≤ hi)
theorem inB_yes {lo hi n : Int} (h : inB lo hi n = true) : lo ≤ n ∧ n ≤ hi := of_decide_eq_true h
theorem inB_no {lo hi n : Int} (h : inB lo hi n = false) : ¬ (lo ≤ n ∧ n ≤ hi) := of_decide_eq_false h
theorem below_drewN {B : Nat} {a w : World} (h : Below B a w) (n : Nat) : Below B a (w.drewN n) := ⟨h.os, h.tape, h.output, h.size, h.block⟩
theorem ret_bool {a b : Bool} (h : a = b) : Ending.returned (.bool a) = .returned (.bool b) := by rw [h]

theorem l1In_any (n lo hi : Int) (w : World) : Calls Tryd.prog 14 #[.int .i64 n, .int .i64 lo, .int .i64 hi] w fun e w' => e = .returned (.bool (inB lo hi n)) ∧ w' = w := by
  by_cases h1 : lo ≤ n <;> by_cases h2 : n ≤ hi <;>
  · go_enter Tryd.func14, Tryd.ntmps14
    go_wp2
    go_ret
    exact ⟨ret_bool (by simp [inB, h1, h2]), rfl⟩

theorem isPart_any (n least : Int) (w : World) : Calls Tryd.prog 18 #[.int .i64 n, .int .i64 least] w fun e w' => e = .returned (.bool (inB least 6400 n)) ∧ w' = w := by
  by_cases h1 : least ≤ n <;> by_cases h2 : n ≤ 6400 <;>
  · go_enter Tryd.func18, Tryd.ntmps18
    go_wp2
    go_ret
    exact ⟨ret_bool (by simp [inB, h1, h2]), rfl⟩

/-- A good font. -/
def fontB (fa fd fn fu fb : Int) : Bool := decide (0 ≤ fa ∧ fa ≤ 6400 ∧ 0 ≤ fd ∧ fd ≤ 6400 ∧ 1 ≤ fn ∧ fn ≤ 6400 ∧ 1 ≤ fu ∧ fu ≤ 6400 ∧ 1 ≤ fb ∧ fb ≤ 6400)
theorem fontB_yes {fa fd fn fu fb : Int} (h : fontB fa fd fn fu fb = true) : 0 ≤ fa ∧ fa ≤ 6400 ∧ 0 ≤ fd ∧ fd ≤ 6400 ∧ 1 ≤ fn ∧ fn ≤ 6400 ∧ 1 ≤ fu ∧ fu ≤ 6400 ∧ 1 ≤ fb ∧ fb ≤ 6400 := of_decide_eq_true h
theorem fontB_mk {fa fd fn fu fb : Int} (h : 0 ≤ fa ∧ fa ≤ 6400 ∧ 0 ≤ fd ∧ fd ≤ 6400 ∧ 1 ≤ fn ∧ fn ≤ 6400 ∧ 1 ≤ fu ∧ fu ≤ 6400 ∧ 1 ≤ fb ∧ fb ≤ 6400) : true = fontB fa fd fn fu fb := (decide_eq_true h).symm
theorem fontB_not {fa fd fn fu fb : Int} (h : ¬ (0 ≤ fa ∧ fa ≤ 6400 ∧ 0 ≤ fd ∧ fd ≤ 6400 ∧ 1 ≤ fn ∧ fn ≤ 6400 ∧ 1 ≤ fu ∧ fu ≤ 6400 ∧ 1 ≤ fb ∧ fb ≤ 6400)) : false = fontB fa fd fn fu fb := (decide_eq_false h).symm
theorem good_cond (fa fd fn fu fb : Int) : (inB 0 6400 fa && inB 0 6400 fd && inB 1 6400 fn && inB 1 6400 fu && inB 1 6400 fb) = fontB fa fd fn fu fb := by
  rw [Bool.eq_iff_iff]
  simp only [Bool.and_eq_true, inB, fontB, decide_eq_true_eq]
  omega

set_option maxHeartbeats 2000000 in
theorem implGood_any (fa fd fn fu fb : Int) (w : World) :
    Calls Tryd.prog 11 #[.agg #[.int .i64 fa, .int .i64 fd, .int .i64 fn, .int .i64 fu, .int .i64 fb]] w fun e w' => e = .returned (.bool (fontB fa fd fn fu fb)) ∧ Below w.heap.size w w' := by
  rw [← good_cond]
  cases h0 : inB 0 6400 fa
  · go_enter Tryd.func11, Tryd.ntmps11
    go_wp2_with (go_at_call 18; refine (isPart_any _ _ _).mono ?_; rintro e w' ⟨rfl, rfl⟩)
    go_ret
    exact ⟨ret_bool (by simp), (Below.refl _ _).alloc (Nat.le_refl _) _⟩
  cases h1 : inB 0 6400 fd
  · go_enter Tryd.func11, Tryd.ntmps11
    go_wp2_with (go_at_call 18; refine (isPart_any _ _ _).mono ?_; rintro e w' ⟨rfl, rfl⟩)
    go_ret
    exact ⟨ret_bool (by simp), (Below.refl _ _).alloc (Nat.le_refl _) _⟩
  cases h2 : inB 1 6400 fn
  · go_enter Tryd.func11, Tryd.ntmps11
    go_wp2_with (go_at_call 18; refine (isPart_any _ _ _).mono ?_; rintro e w' ⟨rfl, rfl⟩)
    go_ret
    exact ⟨ret_bool (by simp), (Below.refl _ _).alloc (Nat.le_refl _) _⟩
  cases h3 : inB 1 6400 fu
  · go_enter Tryd.func11, Tryd.ntmps11
    go_wp2_with (go_at_call 18; refine (isPart_any _ _ _).mono ?_; rintro e w' ⟨rfl, rfl⟩)
    go_ret
    exact ⟨ret_bool (by simp), (Below.refl _ _).alloc (Nat.le_refl _) _⟩
  · go_enter Tryd.func11, Tryd.ntmps11
    go_wp2_with (go_at_call 18; refine (isPart_any _ _ _).mono ?_; rintro e w' ⟨rfl, rfl⟩)
    go_ret
    exact ⟨ret_bool (by simp), (Below.refl _ _).alloc (Nat.le_refl _) _⟩

set_option maxHeartbeats 2000000 in
theorem toFont_any (fa fd fn fu fb : Int) (w : World) :
    Calls Tryd.prog 5 #[.agg #[.int .i64 fa, .int .i64 fd, .int .i64 fn, .int .i64 fu, .int .i64 fb]] w fun e w' => e = .returned (.agg #[.int .i64 fa, .int .i64 fd, .int .i64 fn, .int .i64 fu, .int .i64 fb]) ∧ Below w.heap.size w w' := by
  go_enter Tryd.func5, Tryd.ntmps5
  go_wp2
  refine bodyPost_ret (v := .agg #[.int .i64 fa, .int .i64 fd, .int .i64 fn, .int .i64 fu, .int .i64 fb]) (by simp [results, Tryd.results5, go_sem]) rfl ⟨rfl, ?_⟩
  repeat (first | exact Below.refl _ _ | refine Below.setCell ?_ (by first | (simp; done) | (simp; omega)) _ | refine Below.alloc ?_ (by first | (simp; done) | (simp; omega)) _)

/-- The first k of a font's parts lie between 0 and 6400. -/
def partsOk (fa fd fn fu fb : Int) (k : Nat) : Prop := (0 < k → 0 ≤ fa ∧ fa ≤ 6400) ∧ (1 < k → 0 ≤ fd ∧ fd ≤ 6400) ∧ (2 < k → 0 ≤ fn ∧ fn ≤ 6400) ∧ (3 < k → 0 ≤ fu ∧ fu ≤ 6400) ∧ (4 < k → 0 ≤ fb ∧ fb ≤ 6400)

set_option maxHeartbeats 4000000 in
theorem specGood_any (fa fd fn fu fb : Int) (w : World) :
    Calls Tryd.prog 7 #[.agg #[.int .i64 fa, .int .i64 fd, .int .i64 fn, .int .i64 fu, .int .i64 fb]] w fun e w' => e = .returned (.bool (fontB fa fd fn fu fb)) ∧ Below w.heap.size w w' := by
  go_enter Tryd.func7, Tryd.ntmps7
  go_wp2
  go_loop [17] (fun i => ∃ k : Nat, k ≤ 5 ∧ i = .int .i64 k ∧ partsOk fa fd fn fu fb k) (fun i => 5 - (intOf i).toNat)
  case atStart => exact ⟨0, by omega, rfl, by unfold partsOk; omega⟩
  case round =>
    obtain ⟨k, hk, rfl, hp⟩ := hrel
    have HP : Hid (partsOk fa fd fn fu fb k) := hp
    clear hp
    have hx : k = 0 ∨ k = 1 ∨ k = 2 ∨ k = 3 ∨ k = 4 ∨ k = 5 := by omega
    rcases hx with rfl | rfl | rfl | rfl | rfl | rfl
    · cases hB : inB 0 6400 fa
      · go_wp2_with (go_at_call 14; refine (l1In_any _ _ _ _).mono ?_; rintro e w' ⟨rfl, rfl⟩)
        go_ret
        exact ⟨ret_bool (fontB_not (by have := inB_no hB; omega)), ((Below.refl _ _).alloc (Nat.le_refl _) _).alloc (by simp) _⟩
      · go_wp2_with (go_at_call 14; refine (l1In_any _ _ _ _).mono ?_; rintro e w' ⟨rfl, rfl⟩)
        go_round
        case rel => exact ⟨1, by omega, rfl, by have h := HP.out; have := inB_yes hB; unfold partsOk at h ⊢; omega⟩
        case measure => simp [intOf]
    · cases hB : inB 0 6400 fd
      · go_wp2_with (go_at_call 14; refine (l1In_any _ _ _ _).mono ?_; rintro e w' ⟨rfl, rfl⟩)
        go_ret
        exact ⟨ret_bool (fontB_not (by have := inB_no hB; omega)), ((Below.refl _ _).alloc (Nat.le_refl _) _).alloc (by simp) _⟩
      · go_wp2_with (go_at_call 14; refine (l1In_any _ _ _ _).mono ?_; rintro e w' ⟨rfl, rfl⟩)
        go_round
        case rel => exact ⟨2, by omega, rfl, by have h := HP.out; have := inB_yes hB; unfold partsOk at h ⊢; omega⟩
        case measure => simp [intOf]
    · cases hB : inB 0 6400 fn
      · go_wp2_with (go_at_call 14; refine (l1In_any _ _ _ _).mono ?_; rintro e w' ⟨rfl, rfl⟩)
        go_ret
        exact ⟨ret_bool (fontB_not (by have := inB_no hB; omega)), ((Below.refl _ _).alloc (Nat.le_refl _) _).alloc (by simp) _⟩
      · go_wp2_with (go_at_call 14; refine (l1In_any _ _ _ _).mono ?_; rintro e w' ⟨rfl, rfl⟩)
        go_round
        case rel => exact ⟨3, by omega, rfl, by have h := HP.out; have := inB_yes hB; unfold partsOk at h ⊢; omega⟩
        case measure => simp [intOf]
    · cases hB : inB 0 6400 fu
      · go_wp2_with (go_at_call 14; refine (l1In_any _ _ _ _).mono ?_; rintro e w' ⟨rfl, rfl⟩)
        go_ret
        exact ⟨ret_bool (fontB_not (by have := inB_no hB; omega)), ((Below.refl _ _).alloc (Nat.le_refl _) _).alloc (by simp) _⟩
      · go_wp2_with (go_at_call 14; refine (l1In_any _ _ _ _).mono ?_; rintro e w' ⟨rfl, rfl⟩)
        go_round
        case rel => exact ⟨4, by omega, rfl, by have h := HP.out; have := inB_yes hB; unfold partsOk at h ⊢; omega⟩
        case measure => simp [intOf]
    · cases hB : inB 0 6400 fb
      · go_wp2_with (go_at_call 14; refine (l1In_any _ _ _ _).mono ?_; rintro e w' ⟨rfl, rfl⟩)
        go_ret
        exact ⟨ret_bool (fontB_not (by have := inB_no hB; omega)), ((Below.refl _ _).alloc (Nat.le_refl _) _).alloc (by simp) _⟩
      · go_wp2_with (go_at_call 14; refine (l1In_any _ _ _ _).mono ?_; rintro e w' ⟨rfl, rfl⟩)
        go_round
        case rel => exact ⟨5, by omega, rfl, by have h := HP.out; have := inB_yes hB; unfold partsOk at h ⊢; omega⟩
        case measure => simp [intOf]
    · by_cases g2 : 0 < fn
      rotate_left
      · go_wp2
        go_ret
        exact ⟨ret_bool (fontB_not (by omega)), ((Below.refl _ _).alloc (Nat.le_refl _) _).alloc (by simp) _⟩
      by_cases g3 : 0 < fu
      rotate_left
      · go_wp2
        go_ret
        exact ⟨ret_bool (fontB_not (by omega)), ((Below.refl _ _).alloc (Nat.le_refl _) _).alloc (by simp) _⟩
      by_cases g4 : 0 < fb
      rotate_left
      · go_wp2
        go_ret
        exact ⟨ret_bool (fontB_not (by omega)), ((Below.refl _ _).alloc (Nat.le_refl _) _).alloc (by simp) _⟩
      · go_wp2
        go_ret
        exact ⟨ret_bool (fontB_mk (by have h := HP.out; unfold partsOk at h; omega)), ((Below.refl _ _).alloc (Nat.le_refl _) _).alloc (by simp) _⟩
end Go.Proofs.YtllkbokkhdomoabDoorRR
