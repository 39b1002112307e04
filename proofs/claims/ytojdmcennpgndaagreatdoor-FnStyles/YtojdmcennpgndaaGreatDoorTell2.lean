/-
  The program's tellSize, and its method 'tell' on a size and on a length.
-/
import Derived.Test.YtojdmcennpgndaaGreatDoorTell
import Derived.Test.YtojdmcennpgndaaGreatDoorMapLit
namespace Go.Proofs.YtojdmcennpgndaaGreatDoor
open Go.ChangeShapes Go.WideShapes Go.ChangeAt Go.RowKit
set_option linter.unusedVariables false

theorem itoaI_any (n : Int) (h0 : -9223372036854775808 ≤ n) (h1 : n ≤ 9223372036854775807) (w : World) (htab : Lib.TabIs Tryz.prog w "internal/strconv.uint64pow10" .u64 Lib.pow10Tab) :
    Calls Tryz.prog 55 #[.int .i64 n] w fun e w' => e = .returned (.string (numI n)) ∧ Below w.heap.size w w' := by
  refine (Tryz.strconv_Itoa n h0 h1 w htab).mono ?_
  rintro e w' ⟨rfl, k, os, rfl⟩
  exact ⟨rfl, below_grow w k os⟩
theorem numI_size (n : Int) (h0 : -1000000 ≤ n) (h1 : n ≤ 1000000) : (numI n).size ≤ 20 := by
  have hs := num_size n.natAbs (by omega)
  unfold num at hs
  unfold numI Lib.itoa
  split
  · show (45 :: Lib.decDigits n.natAbs).toArray.size ≤ 20
    have : (Lib.decDigits n.natAbs).toArray.size ≤ 19 := hs
    simp at this ⊢
    omega
  · have e : n.toNat = n.natAbs := by omega
    rw [e]
    exact Nat.le_trans hs (by omega)

set_option maxHeartbeats 2000000 in
theorem tellSize_any (a p : Bool) (n : Int) (w : World) (E : Env w) (g0 : -1000000 ≤ n) (g1 : n ≤ 1000000) :
    Calls Tryz.prog 42 #[.agg #[.bool a, .bool p, .int .i64 n]] w fun e w' => Told (toldB a p n) (toldT a p n) e ∧ Below w.heap.size w w' := by
  have bel0 : Below w.heap.size w (w.alloc (.cells #[.bool a, .bool p, .int .i64 n] 24)) := (Below.refl _ _).alloc (Nat.le_refl _) _
  cases a
  · cases p
    · have TL := tellLength_any n (w.alloc (.cells #[.bool false, .bool false, .int .i64 n] 24)) (E.below bel0 (Nat.le_refl _))
      have et : toldT false false n = pixText n := rfl
      have eb : toldB false false n = pixB n := rfl
      rw [et, eb]
      generalize pixText n = t at TL ⊢
      generalize pixB n = k at TL ⊢
      clear E et eb
      go_enter Tryz.func42, Tryz.ntmps42
      go_wp2_with (go_at_call 44; refine TL.mono ?_; rintro e w1 ⟨he, hb⟩; rcases he with ⟨hk, rfl⟩ | ⟨hk, x, v, rfl⟩)
      · go_ret2
        exact ⟨.inl ⟨hk, rfl⟩, bel0.trans (hb.mono (by simp))⟩
      · go_ret2
        exact ⟨.inr ⟨hk, x, v, rfl⟩, bel0.trans (hb.mono (by simp))⟩
    · by_cases hn : n.tmod 100 = 0
      · have hq : 100 * n.tdiv 100 + n.tmod 100 = n := Int.mul_tdiv_add_tmod n 100
        rw [hn] at hq
        have hq : Hid (100 * n.tdiv 100 + 0 = n) ∧ -1000000 ≤ n.tdiv 100 ∧ n.tdiv 100 ≤ 1000000 := ⟨hq, by omega, by omega⟩
        obtain ⟨_, q0, q1⟩ := hq
        have F1 : IntKind.i64.wrap (n.tdiv 100) = n.tdiv 100 := wrapI _ (by omega) (by omega)
        have IT := itoaI_any (n.tdiv 100) (by omega) (by omega) (w.alloc (.cells #[.bool false, .bool true, .int .i64 n] 24)) (E.below bel0 (Nat.le_refl _)).t
        have hs := numI_size (n.tdiv 100) (by omega) (by omega)
        have et : toldT false true n = numI (n.tdiv 100) ++ ⟨#[37]⟩ := rfl
        have eb : toldB false true n = true := decide_eq_true hn
        rw [et, eb]
        generalize numI (n.tdiv 100) = t at IT hs ⊢
        clear E et eb
        go_enter Tryz.func42, Tryz.ntmps42
        go_wp2_with (go_at_call 55; refine IT.mono ?_; rintro e w1 ⟨rfl, hb⟩)
        go_ret2
        exact ⟨.inl ⟨rfl, rfl⟩, bel0.trans (hb.mono (by simp))⟩
      · obtain ⟨et, ev, he⟩ := (E.below bel0 (Nat.le_refl _)).e
        have eb : toldB false true n = false := decide_eq_false hn
        have h3 : (n.tmod 100 == 0) = false := by simpa using hn
        rw [eb]
        clear E eb
        go_enter Tryz.func42, Tryz.ntmps42
        go_wp2
        go_quiet (fail)
        all_goals
          go_wp2
          go_ret2
          exact ⟨.inr ⟨rfl, _, _, rfl⟩, below_drewN bel0 _⟩
  · clear E
    go_enter Tryz.func42, Tryz.ntmps42
    go_wp2
    go_ret2
    exact ⟨.inl ⟨rfl, rfl⟩, bel0⟩
end Go.Proofs.YtojdmcennpgndaaGreatDoor
