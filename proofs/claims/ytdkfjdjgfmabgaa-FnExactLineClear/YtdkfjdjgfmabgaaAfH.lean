/-
  GoodFloats: of the model and of the program, for every row of floats.
-/
import Derived.Test.YtdkfjdjgfmabgaaAfG
namespace Go.Proofs.Ytdkfjdjgfmabgaa
open Go.ChangeShapes Go.WideShapes Go.ChangeAt Go.RowKit
set_option linter.unusedVariables false

set_option maxHeartbeats 4000000 in
theorem implGoodF_any (a : Option Addr) (n cap : Nat) (l : List Asd) (w : World) (hn : n = l.length) (hr : AsRow w a l) (hl : n ≤ 1048576) :
    Calls Try.prog 22 #[.slice a n cap] w fun e w' => e = .returned (.bool (goodF l)) ∧ Below w.heap.size w w' := by
  by_cases hbig : 40 < n
  · have HG : Hid (goodF l = false) := goodF_long (by omega)
    have hbig' : (40 : Int) < (n : Int) := by omega
    clear hn hr
    go_enter Try.func22, Try.ntmps22
    go_wp2
    go_ret
    exact ⟨ret_bool HG.out.symm, Below.refl _ _⟩
  have hbig' : ¬ ((40 : Int) < (n : Int)) := by omega
  have HN : Hid (n = l.length) := hn
  have HR : Hid (AsRow w a l) := hr
  clear hn hr
  go_enter Try.func22, Try.ntmps22
  go_wp2_with fail
  clear hbig'
  go_loopw [10] (fun i wr => ∃ k : Nat, k ≤ n ∧ i = .int .i64 k ∧ (∀ (i : Nat) (x : Asd), i < k → l[i]? = some x → goodA x = true) ∧ Below w.heap.size w wr) (fun i _ => n - (intOf i).toNat)
  case atStart => exact ⟨0, Nat.zero_le _, rfl, fun i x hi => absurd hi (by omega), Below.refl _ _⟩
  case round =>
    obtain ⟨k, hk, rfl, hp, hbw⟩ := hrel
    have HP : Hid (∀ (i : Nat) (x : Asd), i < k → l[i]? = some x → goodA x = true) := hp
    clear hp
    by_cases hlt : k < n
    rotate_left
    · have HG : Hid (goodF l = true) := goodF_yes (by have := HN.out; omega) (fun i x hi hx => HP.out i x (by have := HN.out; omega) hx)
      go_wp2
      go_ret
      exact ⟨ret_bool HG.out.symm, hbw⟩
    obtain ⟨x, hx⟩ : ∃ x, l[k]? = some x := ⟨_, List.getElem?_eq_getElem (by have := HN.out; omega)⟩
    obtain ⟨b, off, rfl, hc⟩ := as_some HR.out hx
    have hr := as_below (hc k x hx) hbw (as_lt (hc k x hx))
    obtain ⟨q0, q1, q2, q3, q4⟩ := as_cells hr
    have HX : Hid (l[k]? = some x) := hx
    clear hc hx hr
    go_wp2_with fail
    refine (isGoodFloat_any x _).mono ?_
    rintro e w2 ⟨rfl, hb⟩
    have b2 : Below w.heap.size w w2 := (hbw.alloc hbw.size _).trans (hb.mono (by have := hbw.size; simp; omega))
    clear hb hbw q0 q1 q2 q3 q4
    rcases Bool.eq_false_or_eq_true (goodA x) with hg | hg
    · rw [hg]
      go_wp2
      go_roundw
      case rel => exact ⟨k + 1, by omega, by go_num, step_all HX.out hg HP.out, b2⟩
      case measure => simp [intOf]; omega
    · rw [hg]
      go_wp2
      go_ret
      exact ⟨ret_bool (goodF_bad HX.out hg).symm, b2⟩

set_option maxHeartbeats 8000000 in
theorem specGoodF_any (a : Option Addr) (n cap : Nat) (l : List Asd) (w : World) (hn : n = l.length) (hr : AsRow w a l) (hl : n ≤ 1048576) :
    Calls Try.prog 17 #[.slice a n cap] w fun e w' => e = .returned (.bool (goodF l)) ∧ Below w.heap.size w w' := by
  have HN : Hid (n = l.length) := hn
  have HR : Hid (AsRow w a l) := hr
  clear hn hr
  go_enter Try.func17, Try.ntmps17
  go_wp2_with fail
  go_loopw [7] (fun i wr => ∃ k : Nat, k ≤ n ∧ i = .int .i64 k ∧ (∀ (i : Nat) (x : Asd), i < k → l[i]? = some x → goodA x = true) ∧ Below w.heap.size w wr) (fun i _ => n - (intOf i).toNat)
  case atStart => exact ⟨0, Nat.zero_le _, rfl, fun i x hi => absurd hi (by omega), Below.refl _ _⟩
  case round =>
    obtain ⟨k, hk, rfl, hp, hbw⟩ := hrel
    have HP : Hid (∀ (i : Nat) (x : Asd), i < k → l[i]? = some x → goodA x = true) := hp
    clear hp
    by_cases hlt : k < n
    rotate_left
    · by_cases hbig : n ≤ 40
      · have HG : Hid (goodF l = true) := goodF_yes (by have := HN.out; omega) (fun i x hi hx => HP.out i x (by have := HN.out; omega) hx)
        have hbig' : (n : Int) ≤ 40 := by omega
        go_wp2
        go_ret
        exact ⟨ret_bool (by rw [HG.out]), hbw⟩
      · have HG : Hid (goodF l = false) := goodF_long (by have := HN.out; omega)
        have hbig' : ¬ ((n : Int) ≤ 40) := by omega
        go_wp2
        go_ret
        exact ⟨ret_bool (by rw [HG.out]), hbw⟩
    obtain ⟨x, hx⟩ : ∃ x, l[k]? = some x := ⟨_, List.getElem?_eq_getElem (by have := HN.out; omega)⟩
    obtain ⟨b, off, rfl, hc⟩ := as_some HR.out hx
    have hr := as_below (hc k x hx) hbw (as_lt (hc k x hx))
    obtain ⟨q0, q1, q2, q3, q4⟩ := as_cells hr
    have HX : Hid (l[k]? = some x) := hx
    have b2 : ∀ o, Below w.heap.size w (wr.alloc o) := fun o => hbw.alloc hbw.size _
    clear hc hx hr hbw
    have GA : Hid (goodA x = (sideB x && extB x.w && extB x.h && nearB x.x && nearB x.y)) := rfl
    by_cases s1 : x.sd = 1
    · have HS : Hid (sideB x = true) := by show sideB x = true; simp [sideB, s1]
      rcases Bool.eq_false_or_eq_true (extB x.w) with h0 | h0
      rotate_left
      · go_wp2_with fail
        refine (l7Span_any x.w _).mono ?_
        rintro e w' ⟨rfl, hw'⟩
        subst hw'
        rw [h0]
        go_wp2
        go_ret
        exact ⟨ret_bool (goodF_bad HX.out (by rw [GA.out]; simp [h0])).symm, b2 _⟩
      rcases Bool.eq_false_or_eq_true (extB x.h) with h1 | h1
      rotate_left
      · go_wp2_with fail
        refine (l7Span_any x.w _).mono ?_
        rintro e w' ⟨rfl, hw'⟩
        subst hw'
        rw [h0]
        go_wp2_with fail
        refine (l7Span_any x.h _).mono ?_
        rintro e w' ⟨rfl, hw'⟩
        subst hw'
        rw [h1]
        go_wp2
        go_ret
        exact ⟨ret_bool (goodF_bad HX.out (by rw [GA.out]; simp [h0, h1])).symm, b2 _⟩
      rcases Bool.eq_false_or_eq_true (nearB x.x) with h2 | h2
      rotate_left
      · go_wp2_with fail
        refine (l7Span_any x.w _).mono ?_
        rintro e w' ⟨rfl, hw'⟩
        subst hw'
        rw [h0]
        go_wp2_with fail
        refine (l7Span_any x.h _).mono ?_
        rintro e w' ⟨rfl, hw'⟩
        subst hw'
        rw [h1]
        go_wp2_with fail
        refine (l7Place_any x.x _).mono ?_
        rintro e w' ⟨rfl, hw'⟩
        subst hw'
        rw [h2]
        go_wp2
        go_ret
        exact ⟨ret_bool (goodF_bad HX.out (by rw [GA.out]; simp [h0, h1, h2])).symm, b2 _⟩
      rcases Bool.eq_false_or_eq_true (nearB x.y) with h3 | h3
      rotate_left
      · go_wp2_with fail
        refine (l7Span_any x.w _).mono ?_
        rintro e w' ⟨rfl, hw'⟩
        subst hw'
        rw [h0]
        go_wp2_with fail
        refine (l7Span_any x.h _).mono ?_
        rintro e w' ⟨rfl, hw'⟩
        subst hw'
        rw [h1]
        go_wp2_with fail
        refine (l7Place_any x.x _).mono ?_
        rintro e w' ⟨rfl, hw'⟩
        subst hw'
        rw [h2]
        go_wp2_with fail
        refine (l7Place_any x.y _).mono ?_
        rintro e w' ⟨rfl, hw'⟩
        subst hw'
        rw [h3]
        go_wp2
        go_ret
        exact ⟨ret_bool (goodF_bad HX.out (by rw [GA.out]; simp [h0, h1, h2, h3])).symm, b2 _⟩
      go_wp2_with fail
      refine (l7Span_any x.w _).mono ?_
      rintro e w' ⟨rfl, hw'⟩
      subst hw'
      rw [h0]
      go_wp2_with fail
      refine (l7Span_any x.h _).mono ?_
      rintro e w' ⟨rfl, hw'⟩
      subst hw'
      rw [h1]
      go_wp2_with fail
      refine (l7Place_any x.x _).mono ?_
      rintro e w' ⟨rfl, hw'⟩
      subst hw'
      rw [h2]
      go_wp2_with fail
      refine (l7Place_any x.y _).mono ?_
      rintro e w' ⟨rfl, hw'⟩
      subst hw'
      rw [h3]
      go_wp2
      go_roundw
      case rel => exact ⟨k + 1, by omega, by go_num, step_all HX.out (by rw [GA.out, HS.out, h0, h1, h2, h3]; rfl) HP.out, b2 _⟩
      case measure => simp [intOf]; omega
    by_cases s2 : x.sd = 2
    · have HS : Hid (sideB x = true) := by show sideB x = true; simp [sideB, s2]
      rcases Bool.eq_false_or_eq_true (extB x.w) with h0 | h0
      rotate_left
      · go_wp2_with fail
        refine (l7Span_any x.w _).mono ?_
        rintro e w' ⟨rfl, hw'⟩
        subst hw'
        rw [h0]
        go_wp2
        go_ret
        exact ⟨ret_bool (goodF_bad HX.out (by rw [GA.out]; simp [h0])).symm, b2 _⟩
      rcases Bool.eq_false_or_eq_true (extB x.h) with h1 | h1
      rotate_left
      · go_wp2_with fail
        refine (l7Span_any x.w _).mono ?_
        rintro e w' ⟨rfl, hw'⟩
        subst hw'
        rw [h0]
        go_wp2_with fail
        refine (l7Span_any x.h _).mono ?_
        rintro e w' ⟨rfl, hw'⟩
        subst hw'
        rw [h1]
        go_wp2
        go_ret
        exact ⟨ret_bool (goodF_bad HX.out (by rw [GA.out]; simp [h0, h1])).symm, b2 _⟩
      rcases Bool.eq_false_or_eq_true (nearB x.x) with h2 | h2
      rotate_left
      · go_wp2_with fail
        refine (l7Span_any x.w _).mono ?_
        rintro e w' ⟨rfl, hw'⟩
        subst hw'
        rw [h0]
        go_wp2_with fail
        refine (l7Span_any x.h _).mono ?_
        rintro e w' ⟨rfl, hw'⟩
        subst hw'
        rw [h1]
        go_wp2_with fail
        refine (l7Place_any x.x _).mono ?_
        rintro e w' ⟨rfl, hw'⟩
        subst hw'
        rw [h2]
        go_wp2
        go_ret
        exact ⟨ret_bool (goodF_bad HX.out (by rw [GA.out]; simp [h0, h1, h2])).symm, b2 _⟩
      rcases Bool.eq_false_or_eq_true (nearB x.y) with h3 | h3
      rotate_left
      · go_wp2_with fail
        refine (l7Span_any x.w _).mono ?_
        rintro e w' ⟨rfl, hw'⟩
        subst hw'
        rw [h0]
        go_wp2_with fail
        refine (l7Span_any x.h _).mono ?_
        rintro e w' ⟨rfl, hw'⟩
        subst hw'
        rw [h1]
        go_wp2_with fail
        refine (l7Place_any x.x _).mono ?_
        rintro e w' ⟨rfl, hw'⟩
        subst hw'
        rw [h2]
        go_wp2_with fail
        refine (l7Place_any x.y _).mono ?_
        rintro e w' ⟨rfl, hw'⟩
        subst hw'
        rw [h3]
        go_wp2
        go_ret
        exact ⟨ret_bool (goodF_bad HX.out (by rw [GA.out]; simp [h0, h1, h2, h3])).symm, b2 _⟩
      go_wp2_with fail
      refine (l7Span_any x.w _).mono ?_
      rintro e w' ⟨rfl, hw'⟩
      subst hw'
      rw [h0]
      go_wp2_with fail
      refine (l7Span_any x.h _).mono ?_
      rintro e w' ⟨rfl, hw'⟩
      subst hw'
      rw [h1]
      go_wp2_with fail
      refine (l7Place_any x.x _).mono ?_
      rintro e w' ⟨rfl, hw'⟩
      subst hw'
      rw [h2]
      go_wp2_with fail
      refine (l7Place_any x.y _).mono ?_
      rintro e w' ⟨rfl, hw'⟩
      subst hw'
      rw [h3]
      go_wp2
      go_roundw
      case rel => exact ⟨k + 1, by omega, by go_num, step_all HX.out (by rw [GA.out, HS.out, h0, h1, h2, h3]; rfl) HP.out, b2 _⟩
      case measure => simp [intOf]; omega
    have HS : Hid (sideB x = false) := by show sideB x = false; simp [sideB, s1, s2]
    go_wp2
    go_ret
    exact ⟨ret_bool (goodF_bad HX.out (by rw [GA.out, HS.out]; rfl)).symm, b2 _⟩
end Go.Proofs.Ytdkfjdjgfmabgaa
