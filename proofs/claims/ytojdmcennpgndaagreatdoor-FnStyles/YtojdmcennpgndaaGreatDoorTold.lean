/-
  The model's l1Num below 0 too, and its l4Told: a size's text.
-/
import Derived.Test.YtojdmcennpgndaaGreatDoorTell2
namespace Go.Proofs.YtojdmcennpgndaaGreatDoor
open Go.ChangeShapes Go.WideShapes Go.ChangeAt Go.RowKit
set_option linter.unusedVariables false

theorem numI_pos (u : Nat) : numI (u : Int) = num u := by unfold numI num; rw [Lib.itoa_nonneg]
theorem numI_neg (u : Nat) (h : 1 ≤ u) : numI (-(u : Int)) = ⟨#[45]⟩ ++ num u := by
  unfold numI num
  rw [Lib.itoa_neg u h]
  apply ByteArray.ext
  simp
set_option maxHeartbeats 2000000 in
theorem l1Num_neg (u : Nat) (h : 1 ≤ u) (h2 : u ≤ 1000000) (w : World) :
    Calls Tryz.prog 46 #[.int .i64 (-(u : Int))] w fun e w' => e = .returned (.string (⟨#[45]⟩ ++ num u)) ∧ Below w.heap.size w w' := by
  have L := fun w => l1Num_any u (by omega) w
  have hs := num_size u (by omega)
  generalize num u = t at L hs ⊢
  have h3 : ¬ (-(u : Int)) = -9223372036854775808 := by omega
  go_enter Tryz.func46, Tryz.ntmps46
  go_wp2_with (go_at_call 46; (first | refine (L _).mono ?_ | (rw [Int.neg_neg]; refine (L _).mono ?_)); rintro e w1 ⟨rfl, hb⟩)
  go_ret
  exact ⟨rfl, hb⟩
theorem l1NumI_any (n : Int) (h0 : -1000000 ≤ n) (h1 : n ≤ 1000000) (w : World) :
    Calls Tryz.prog 46 #[.int .i64 n] w fun e w' => e = .returned (.string (numI n)) ∧ Below w.heap.size w w' := by
  by_cases hn : n < 0
  · have e : n = -((n.natAbs : Nat) : Int) := by omega
    rw [e, numI_neg n.natAbs (by omega)]
    exact l1Num_neg n.natAbs (by omega) (by omega) w
  · have e : n = ((n.natAbs : Nat) : Int) := by omega
    rw [e, numI_pos]
    exact l1Num_any n.natAbs (by omega) w
theorem tdiv_bd (n : Int) (g0 : -1000000 ≤ n) (g1 : n ≤ 1000000) : -1000000 ≤ n.tdiv 100 ∧ n.tdiv 100 ≤ 1000000 := by
  have hq : 100 * n.tdiv 100 + n.tmod 100 = n := Int.mul_tdiv_add_tmod n 100
  have h1 := Int.tmod_lt_of_pos n (show (0 : Int) < 100 by omega)
  have h2 : -100 < n.tmod 100 := by
    have := Int.tmod_lt_of_pos (-n) (show (0 : Int) < 100 by omega)
    rw [Int.neg_tmod] at this
    omega
  omega
set_option maxHeartbeats 2000000 in
theorem l4Told_any (a p : Bool) (n : Int) (w : World) (g0 : -1000000 ≤ n) (g1 : n ≤ 1000000) :
    Calls Tryz.prog 34 #[.agg #[.bool a, .bool p, .int .i64 n]] w fun e w' => e = .returned (.string (toldT a p n)) ∧ Below w.heap.size w w' := by
  cases a
  · cases p
    · have et : toldT false false n = pixText n := rfl
      have TS := specText_any n (w.alloc (.cells #[.bool false, .bool false, .int .i64 n] 24))
      rw [et]
      generalize pixText n = t at TS ⊢
      generalize pixB n = k at TS ⊢
      clear et
      go_enter Tryz.func34, Tryz.ntmps34
      go_wp2_with (go_at_call 47; refine TS.mono ?_; rintro e w1 ⟨rfl, hb⟩)
      go_ret
      exact ⟨rfl, ((Below.refl _ _).alloc (Nat.le_refl _) _).trans (hb.mono (by simp))⟩
    · obtain ⟨q0, q1⟩ := tdiv_bd n g0 g1
      have F1 : IntKind.i64.wrap (n.tdiv 100) = n.tdiv 100 := wrapI _ (by omega) (by omega)
      have L := fun w => l1NumI_any (n.tdiv 100) q0 q1 w
      have hs := numI_size (n.tdiv 100) q0 q1
      have et : toldT false true n = numI (n.tdiv 100) ++ ⟨#[37]⟩ := rfl
      rw [et]
      generalize numI (n.tdiv 100) = t at L hs ⊢
      clear et
      go_enter Tryz.func34, Tryz.ntmps34
      go_wp2_with (go_at_call 46; refine (L _).mono ?_; rintro e w1 ⟨rfl, hb⟩)
      go_ret
      exact ⟨rfl, ((Below.refl _ _).alloc (Nat.le_refl _) _).trans (hb.mono (by simp))⟩
  · go_enter Tryz.func34, Tryz.ntmps34
    go_wp2
    go_ret
    exact ⟨rfl, (Below.refl _ _).alloc (Nat.le_refl _) _⟩
end Go.Proofs.YtojdmcennpgndaaGreatDoor
