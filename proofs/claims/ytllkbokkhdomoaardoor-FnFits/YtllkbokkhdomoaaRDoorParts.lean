/-
  Contracts of a line's parts, of the program and of its model: both answer lineParts of the font and the height, for every six ints.
-/
import Derived.Test.YtllkbokkhdomoaaRDoorFont
namespace Go.Proofs.YtllkbokkhdomoaaRDoor
open Go.ChangeShapes Go.WideShapes Go.ChangeAt Go.RowKit
set_option linter.unusedVariables false

/-- The half of a number, down. -/
def half (n : Int) : Int := if n.tmod 2 < 0 then n.tdiv 2 - 1 else n.tdiv 2
theorem half_bd (n : Int) : 2 * half n ≤ n ∧ n ≤ 2 * half n + 1 := by
  have h := Int.tmod_add_mul_tdiv n 2
  have h1 := Int.tmod_lt_of_pos n (show (0 : Int) < 2 by omega)
  unfold half
  by_cases h0 : n.tmod 2 < 0
  · rw [if_pos h0]
    have : -2 < n.tmod 2 := by
      have h2 : (n.tmod 2).natAbs = n.natAbs % 2 := Int.natAbs_tmod n 2
      omega
    omega
  · rw [if_neg h0]; omega

theorem half_lo {n : Int} (h : n.tmod 2 < 0) : n.tdiv 2 - 1 = half n := (if_pos h).symm
theorem half_hi {n : Int} (h : 0 ≤ n.tmod 2) : n.tdiv 2 = half n := (if_neg (by omega)).symm
theorem ret_int {a b : Int} (h : a = b) : Ending.returned (.int .i64 a) = .returned (.int .i64 b) := by rw [h]

theorem quot2 (n : Int) : -9223372036854775808 ≤ n → n ≤ 9223372036854775807 → -4611686018427387904 ≤ n.tdiv 2 ∧ n.tdiv 2 ≤ 4611686018427387904 := by
  intro h1 h2
  have e : (n.tdiv 2).natAbs = n.natAbs / 2 := Int.natAbs_tdiv n 2
  omega

theorem specDown_any (n : Int) (w : World) (h1 : -1000000000 ≤ n) (h2 : n ≤ 1000000000) : Calls Tryd.prog 36 #[.int .i64 n, .int .i64 2] w fun e w' => e = .returned (.int .i64 (half n)) ∧ w' = w := by
  obtain ⟨q1, q2⟩ := quot2 n (by omega) (by omega)
  by_cases hn : n.tmod 2 < 0
  · go_enter Tryd.func36, Tryd.ntmps36
    go_wp2
    go_ret
    exact ⟨ret_int (half_lo (by omega)), rfl⟩
  · go_enter Tryd.func36, Tryd.ntmps36
    go_wp2
    go_ret
    exact ⟨ret_int (half_hi (by omega)), rfl⟩
theorem implHalf_any (n : Int) (w : World) (h1 : -1000000000 ≤ n) (h2 : n ≤ 1000000000) : Calls Tryd.prog 26 #[.int .i64 n] w fun e w' => e = .returned (.int .i64 (half n)) ∧ w' = w := by
  obtain ⟨q1, q2⟩ := quot2 n (by omega) (by omega)
  by_cases hn : n.tmod 2 < 0
  · go_enter Tryd.func26, Tryd.ntmps26
    go_wp2
    go_ret
    exact ⟨ret_int (half_lo (by omega)), rfl⟩
  · go_enter Tryd.func26, Tryd.ntmps26
    go_wp2
    go_ret
    exact ⟨ret_int (half_hi (by omega)), rfl⟩

/-- A line's whole height. -/
def whole (fa fd h : Int) : Int := if h = 0 then fa + fd else h
def above (fa fd h : Int) : Int := fa + half (whole fa fd h - fa - fd)
theorem whole_bd {fa fd h : Int} (a1 : 0 ≤ fa) (a2 : fa ≤ 6400) (d1 : 0 ≤ fd) (d2 : fd ≤ 6400) (h1 : 0 ≤ h) (h2 : h ≤ 64000) : 0 ≤ whole fa fd h ∧ whole fa fd h ≤ 64000 := by
  unfold whole; split <;> omega
/-- What LineParts answers. -/
def lineV (fa fd fn fu fb h : Int) : Value :=
  if fontB fa fd fn fu fb = true ∧ inB 0 64000 h = true then .tuple #[.int .i64 (above fa fd h), .int .i64 (whole fa fd h - above fa fd h), .bool true] else .tuple #[.int .i64 0, .int .i64 0, .bool false]
theorem lineV_no {fa fd fn fu fb h : Int} (e : ¬ (fontB fa fd fn fu fb = true ∧ inB 0 64000 h = true)) : Value.tuple #[.int .i64 0, .int .i64 0, .bool false] = lineV fa fd fn fu fb h := (if_neg e).symm
theorem lineV_yes {fa fd fn fu fb h : Int} (e : fontB fa fd fn fu fb = true) (e' : inB 0 64000 h = true) : Value.tuple #[.int .i64 (above fa fd h), .int .i64 (whole fa fd h - above fa fd h), .bool true] = lineV fa fd fn fu fb h := (if_pos ⟨e, e'⟩).symm
theorem tup2 {a b c d : Int} (h : a = c) (k : b = d) : Ending.returned (.tuple #[.int .i64 a, .int .i64 b]) = .returned (.tuple #[.int .i64 c, .int .i64 d]) := by rw [h, k]
theorem tup3 {a b c d : Int} {x : Bool} (h : a = c) (k : b = d) : Value.tuple #[.int .i64 a, .int .i64 b, .bool x] = .tuple #[.int .i64 c, .int .i64 d, .bool x] := by rw [h, k]

set_option maxHeartbeats 4000000 in
theorem l2Parts_any (fa fd fn fu fb h : Int) (w : World) (a1 : 0 ≤ fa) (a2 : fa ≤ 6400) (d1 : 0 ≤ fd) (d2 : fd ≤ 6400) (h1 : 0 ≤ h) (h2 : h ≤ 64000) :
    Calls Tryd.prog 28 #[.agg #[.int .i64 fa, .int .i64 fd, .int .i64 fn, .int .i64 fu, .int .i64 fb], .int .i64 h] w fun e w' => e = .returned (.tuple #[.int .i64 (above fa fd h), .int .i64 (whole fa fd h - above fa fd h)]) ∧ Below w.heap.size w w' := by
  by_cases h0 : h = 0
  · subst h0
    have hb := half_bd (fa + fd - fa - fd)
    have HE : Hid (above fa fd 0 = fa + half (fa + fd - fa - fd)) := rfl
    have HW : Hid (whole fa fd 0 = fa + fd) := rfl
    go_enter Tryd.func28, Tryd.ntmps28
    go_wp2
    go_quiet ((go_at_call 36; exact Calls.quiet_of_same (specDown_any _ _ (by omega) (by omega))))
    go_wp2
    go_ret2
    exact ⟨tup2 (by rw [HE.out]) (by rw [HE.out, HW.out]), by repeat (first | exact Below.refl _ _ | refine Below.setCell ?_ (by first | (simp; done) | (simp; omega)) _ | refine Below.alloc ?_ (by first | (simp; done) | (simp; omega)) _ | refine below_drewN ?_ _)⟩
  · have hb := half_bd (h - fa - fd)
    have HE : Hid (above fa fd h = fa + half (h - fa - fd)) := by show _ = _; unfold above whole; rw [if_neg h0]
    have HW : Hid (whole fa fd h = h) := if_neg h0
    go_enter Tryd.func28, Tryd.ntmps28
    go_wp2
    go_quiet ((go_at_call 36; exact Calls.quiet_of_same (specDown_any _ _ (by omega) (by omega))))
    go_wp2
    go_ret2
    exact ⟨tup2 (by rw [HE.out]) (by rw [HE.out, HW.out]), by repeat (first | exact Below.refl _ _ | refine Below.setCell ?_ (by first | (simp; done) | (simp; omega)) _ | refine Below.alloc ?_ (by first | (simp; done) | (simp; omega)) _ | refine below_drewN ?_ _)⟩

set_option maxHeartbeats 4000000 in
theorem specLine_any (fa fd fn fu fb h : Int) (w : World) :
    Calls Tryd.prog 12 #[.agg #[.int .i64 fa, .int .i64 fd, .int .i64 fn, .int .i64 fu, .int .i64 fb], .int .i64 h] w fun e w' => e = .returned (lineV fa fd fn fu fb h) ∧ Below w.heap.size w w' := by
  cases hF : fontB fa fd fn fu fb
  · have hV := lineV_no (fa := fa) (fd := fd) (fn := fn) (fu := fu) (fb := fb) (h := h) (by simp [hF])
    have HV : Hid (_ = _) := hV
    clear hV
    go_enter Tryd.func12, Tryd.ntmps12
    go_wp2_with (go_at_call 20; refine (specGood_any _ _ _ _ _ _).mono ?_; rintro e w' ⟨rfl, hb1⟩)
    go_ret3
    exact ⟨congrArg Ending.returned HV.out, ((Below.refl _ _).alloc (Nat.le_refl _) _).trans (hb1.mono (by simp))⟩
  cases hH : inB 0 64000 h
  · have hV := lineV_no (fa := fa) (fd := fd) (fn := fn) (fu := fu) (fb := fb) (h := h) (by simp [hH])
    have HV : Hid (_ = _) := hV
    clear hV
    go_enter Tryd.func12, Tryd.ntmps12
    go_wp2_with (first | (go_at_call 20; refine (specGood_any _ _ _ _ _ _).mono ?_; rintro e w' ⟨rfl, hb1⟩) | (go_at_call 27; refine (l1In_any _ _ _ _).mono ?_; rintro e w' ⟨rfl, rfl⟩))
    go_ret3
    exact ⟨congrArg Ending.returned HV.out, ((Below.refl _ _).alloc (Nat.le_refl _) _).trans (hb1.mono (by simp))⟩
  · have hV := lineV_yes hF hH
    have HV : Hid (_ = _) := hV
    clear hV
    obtain ⟨a1, a2, d1, d2, _⟩ := fontB_yes hF
    obtain ⟨h1, h2⟩ := inB_yes hH
    have LP := fun w => l2Parts_any fa fd fn fu fb h w a1 a2 d1 d2 h1 h2
    clear a1 a2 d1 d2 h1 h2
    go_enter Tryd.func12, Tryd.ntmps12
    go_wp2_with (first | (go_at_call 20; refine (specGood_any _ _ _ _ _ _).mono ?_; rintro e w1 ⟨rfl, hb1⟩; have hc := fun o => hb1.cell (p := ⟨w.heap.size, o, none⟩) (by simp)) | (go_at_call 27; refine (l1In_any _ _ _ _).mono ?_; rintro e w' ⟨rfl, rfl⟩) | (go_at_call 28; refine (LP _).mono ?_; rintro e w2 ⟨rfl, hb2⟩))
    go_ret3
    exact ⟨congrArg Ending.returned HV.out, (((Below.refl _ _).alloc (Nat.le_refl _) _).trans (hb1.mono (by simp))).trans (hb2.mono (by have := hb1.size; simp at this; omega))⟩

set_option maxHeartbeats 4000000 in
theorem implLine_any (fa fd fn fu fb h : Int) (w : World) :
    Calls Tryd.prog 11 #[.agg #[.int .i64 fa, .int .i64 fd, .int .i64 fn, .int .i64 fu, .int .i64 fb], .int .i64 h] w fun e w' => e = .returned (lineV fa fd fn fu fb h) ∧ Below w.heap.size w w' := by
  cases hF : fontB fa fd fn fu fb
  · have hV := lineV_no (fa := fa) (fd := fd) (fn := fn) (fu := fu) (fb := fb) (h := h) (by simp [hF])
    have HV : Hid (_ = _) := hV
    clear hV
    go_enter Tryd.func11, Tryd.ntmps11
    go_wp2_with (go_at_call 17; refine (implGood_any _ _ _ _ _ _).mono ?_; rintro e w' ⟨rfl, hb1⟩)
    go_ret3
    exact ⟨congrArg Ending.returned HV.out, ((Below.refl _ _).alloc (Nat.le_refl _) _).trans (hb1.mono (by simp))⟩
  by_cases h1 : 0 ≤ h
  rotate_left
  · have hV := lineV_no (fa := fa) (fd := fd) (fn := fn) (fu := fu) (fb := fb) (h := h) (by simp [inB]; omega)
    have HV : Hid (_ = _) := hV
    clear hV
    go_enter Tryd.func11, Tryd.ntmps11
    go_wp2_with (go_at_call 17; refine (implGood_any _ _ _ _ _ _).mono ?_; rintro e w' ⟨rfl, hb1⟩)
    go_ret3
    exact ⟨congrArg Ending.returned HV.out, ((Below.refl _ _).alloc (Nat.le_refl _) _).trans (hb1.mono (by simp))⟩
  by_cases h2 : h ≤ 64000
  rotate_left
  · have hV := lineV_no (fa := fa) (fd := fd) (fn := fn) (fu := fu) (fb := fb) (h := h) (by simp [inB]; omega)
    have HV : Hid (_ = _) := hV
    clear hV
    go_enter Tryd.func11, Tryd.ntmps11
    go_wp2_with (go_at_call 17; refine (implGood_any _ _ _ _ _ _).mono ?_; rintro e w' ⟨rfl, hb1⟩)
    go_ret3
    exact ⟨congrArg Ending.returned HV.out, ((Below.refl _ _).alloc (Nat.le_refl _) _).trans (hb1.mono (by simp))⟩
  obtain ⟨a1, a2, d1, d2, _⟩ := fontB_yes hF
  have hV := lineV_yes (h := h) hF (decide_eq_true ⟨h1, h2⟩)
  have HV : Hid (_ = _) := hV
  clear hV
  by_cases h0 : h = 0
  · subst h0
    have hb := half_bd (fa + fd - fa - fd)
    have HE : Hid (above fa fd 0 = fa + half (fa + fd - fa - fd)) := rfl
    have HW : Hid (whole fa fd 0 = fa + fd) := rfl
    go_enter Tryd.func11, Tryd.ntmps11
    go_wp2_with (go_at_call 17; refine (implGood_any _ _ _ _ _ _).mono ?_; rintro e w1 ⟨rfl, hb1⟩; have hc := fun o => hb1.cell (p := ⟨w.heap.size, o, none⟩) (by simp))
    go_quiet ((go_at_call 26; exact Calls.quiet_of_same (implHalf_any _ _ (by omega) (by omega))))
    go_wp2
    go_ret3
    exact ⟨congrArg Ending.returned ((tup3 (by rw [HE.out]) (by rw [HE.out, HW.out])).trans HV.out), below_drewN (((Below.refl _ _).alloc (Nat.le_refl _) _).trans (hb1.mono (by simp))) _⟩
  · have hb := half_bd (h - fa - fd)
    have HE : Hid (above fa fd h = fa + half (h - fa - fd)) := by show _ = _; unfold above whole; rw [if_neg h0]
    have HW : Hid (whole fa fd h = h) := if_neg h0
    go_enter Tryd.func11, Tryd.ntmps11
    go_wp2_with (go_at_call 17; refine (implGood_any _ _ _ _ _ _).mono ?_; rintro e w1 ⟨rfl, hb1⟩; have hc := fun o => hb1.cell (p := ⟨w.heap.size, o, none⟩) (by simp))
    go_quiet ((go_at_call 26; exact Calls.quiet_of_same (implHalf_any _ _ (by omega) (by omega))))
    go_wp2
    go_ret3
    exact ⟨congrArg Ending.returned ((tup3 (by rw [HE.out]) (by rw [HE.out, HW.out])).trans HV.out), below_drewN (((Below.refl _ _).alloc (Nat.le_refl _) _).trans (hb1.mono (by simp))) _⟩
end Go.Proofs.YtllkbokkhdomoaaRDoor
