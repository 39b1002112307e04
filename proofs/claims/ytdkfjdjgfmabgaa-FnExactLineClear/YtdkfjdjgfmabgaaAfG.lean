/-
  Good floats: of the model and of the program, for every row of floats.
-/
import Derived.Test.YtdkfjdjgfmabgaaAfE
import Derived.Test.YtdkfjdjgfmabgaaFont
namespace Go.Proofs.Ytdkfjdjgfmabgaa
open Go.ChangeShapes Go.WideShapes Go.ChangeAt Go.RowKit
set_option linter.unusedVariables false

abbrev nearB (n : Int) : Bool := inB (-100000000) 100000000 n
abbrev extB (n : Int) : Bool := inB 0 1000000 n
def sideB (x : Asd) : Bool := decide (x.sd = 1) || decide (x.sd = 2)
def goodA (x : Asd) : Bool := sideB x && extB x.w && extB x.h && nearB x.x && nearB x.y
def goodF (l : List Asd) : Bool := decide (l.length ≤ 40) && l.all goodA
theorem goodF_long {l : List Asd} (h : 40 < l.length) : goodF l = false := by
  unfold goodF
  rw [decide_eq_false (by omega), Bool.false_and]
theorem goodF_bad {l : List Asd} {k : Nat} {x : Asd} (hx : l[k]? = some x) (h : goodA x = false) : goodF l = false := by
  unfold goodF
  have : l.all goodA = false := List.all_eq_false.2 ⟨x, List.mem_of_getElem? hx, by simp [h]⟩
  rw [this, Bool.and_false]
theorem goodF_yes {l : List Asd} (h : l.length ≤ 40) (hp : ∀ (i : Nat) (x : Asd), i < l.length → l[i]? = some x → goodA x = true) : goodF l = true := by
  unfold goodF
  rw [decide_eq_true h, Bool.true_and]
  refine List.all_eq_true.2 fun x hx => ?_
  obtain ⟨i, hi⟩ := List.getElem?_of_mem hx
  exact hp i x (List.getElem?_eq_some_iff.1 hi).1 hi
theorem goodF_len {l : List Asd} (h : goodF l = true) : l.length ≤ 40 := by
  unfold goodF at h
  rw [Bool.and_eq_true] at h
  exact of_decide_eq_true h.1
theorem goodF_mem {l : List Asd} (h : goodF l = true) {x : Asd} (hx : x ∈ l) : goodA x = true := by
  unfold goodF at h
  rw [Bool.and_eq_true] at h
  exact List.all_eq_true.1 h.2 x hx
theorem goodA_parts {x : Asd} (h : goodA x = true) : (x.sd = 1 ∨ x.sd = 2) ∧ (0 ≤ x.w ∧ x.w ≤ 1000000) ∧ (0 ≤ x.h ∧ x.h ≤ 1000000) ∧ (-100000000 ≤ x.x ∧ x.x ≤ 100000000) ∧ (-100000000 ≤ x.y ∧ x.y ≤ 100000000) := by
  unfold goodA sideB at h
  simp only [Bool.and_eq_true, Bool.or_eq_true, decide_eq_true_eq] at h
  obtain ⟨⟨⟨⟨h0, h1⟩, h2⟩, h3⟩, h4⟩ := h
  exact ⟨h0, inB_yes h1, inB_yes h2, inB_yes h3, inB_yes h4⟩
theorem step_all {p : Asd → Bool} {l : List Asd} {k : Nat} {x : Asd} (hx : l[k]? = some x) (h : p x = true) (hp : ∀ (i : Nat) (x : Asd), i < k → l[i]? = some x → p x = true) (i : Nat) (y : Asd) (hi : i < k + 1) (hy : l[i]? = some y) : p y = true := by
  by_cases e : i = k
  · subst e
    obtain rfl := Option.some.inj (hx.symm.trans hy)
    exact h
  · exact hp i y (by omega) hy
theorem as_some {w : World} {a : Option Addr} {l : List Asd} (hr : AsRow w a l) {i : Nat} {x : Asd} (h : l[i]? = some x) : ∃ b off, a = some ⟨b, off, none⟩ ∧ ∀ i n, l[i]? = some n → w.rangeAt b (off + i * 5) (asL n) := by
  rcases hr with h' | h'
  · rw [h'] at h; simp at h
  · exact h'

theorem isExtent_any (n : Int) (w : World) : Calls Try.prog 24 #[.int .i64 n] w fun e w' => e = .returned (.bool (extB n)) ∧ w' = w := by
  by_cases h1 : 0 ≤ n <;> by_cases h2 : n ≤ 1000000 <;>
  · go_enter Try.func24, Try.ntmps24
    go_wp2
    go_ret
    exact ⟨ret_bool (by simp [inB, h1, h2]), rfl⟩
theorem isNear_any (n : Int) (w : World) : Calls Try.prog 23 #[.int .i64 n] w fun e w' => e = .returned (.bool (nearB n)) ∧ w' = w := by
  by_cases h1 : -100000000 ≤ n <;> by_cases h2 : n ≤ 100000000 <;>
  · go_enter Try.func23, Try.ntmps23
    go_wp2
    go_ret
    exact ⟨ret_bool (by simp [inB, h1, h2]), rfl⟩
theorem l7Span_any (n : Int) (w : World) : Calls Try.prog 19 #[.int .i64 n] w fun e w' => e = .returned (.bool (extB n)) ∧ w' = w := by
  go_enter Try.func19, Try.ntmps19
  go_wp2_with (go_at_call 32; refine (l1In_any _ _ _ _).mono ?_; rintro e w' ⟨rfl, rfl⟩)
  go_ret
  exact ⟨rfl, rfl⟩
theorem l7Place_any (n : Int) (w : World) : Calls Try.prog 18 #[.int .i64 n] w fun e w' => e = .returned (.bool (nearB n)) ∧ w' = w := by
  go_enter Try.func18, Try.ntmps18
  go_wp2_with (go_at_call 32; refine (l1In_any _ _ _ _).mono ?_; rintro e w' ⟨rfl, rfl⟩)
  go_ret
  exact ⟨rfl, rfl⟩
set_option maxHeartbeats 1000000 in
theorem isLeft_any (x : Asd) (w : World) : Calls Try.prog 38 #[.agg #[.int .i64 x.sd, .int .i64 x.x, .int .i64 x.y, .int .i64 x.w, .int .i64 x.h]] w fun e w' => e = .returned (.bool (decide (x.sd = 1))) ∧ w' = w.alloc (.cells #[.int .i64 x.sd, .int .i64 x.x, .int .i64 x.y, .int .i64 x.w, .int .i64 x.h] 47) := by
  go_enter Try.func38, Try.ntmps38
  go_wp2
  go_ret
  exact ⟨ret_bool (by simp [Bool.beq_eq_decide_eq]), rfl⟩
set_option maxHeartbeats 1000000 in
theorem isRight_any (x : Asd) (w : World) : Calls Try.prog 39 #[.agg #[.int .i64 x.sd, .int .i64 x.x, .int .i64 x.y, .int .i64 x.w, .int .i64 x.h]] w fun e w' => e = .returned (.bool (decide (x.sd = 2))) ∧ w' = w.alloc (.cells #[.int .i64 x.sd, .int .i64 x.x, .int .i64 x.y, .int .i64 x.w, .int .i64 x.h] 47) := by
  go_enter Try.func39, Try.ntmps39
  go_wp2
  go_ret
  exact ⟨ret_bool (by simp [Bool.beq_eq_decide_eq]), rfl⟩
set_option maxHeartbeats 8000000 in
theorem isGoodFloat_any (x : Asd) (w : World) : Calls Try.prog 34 #[.agg #[.int .i64 x.sd, .int .i64 x.x, .int .i64 x.y, .int .i64 x.w, .int .i64 x.h]] w fun e w' => e = .returned (.bool (goodA x)) ∧ Below w.heap.size w w' := by
  have b1 : ∀ o, Below w.heap.size w (w.alloc o) := fun o => (Below.refl _ _).alloc (Nat.le_refl _) _
  have b2 : ∀ o o', Below w.heap.size w ((w.alloc o).alloc o') := fun o o' => (b1 o).alloc (by simp) _
  have b3 : ∀ o o' o'', Below w.heap.size w (((w.alloc o).alloc o').alloc o'') := fun o o' o'' => (b2 o o').alloc (by simp; omega) _
  rcases Bool.eq_false_or_eq_true (decide (x.sd = 1)) with s1 | s1
  · rcases Bool.eq_false_or_eq_true (extB x.w) with h0 | h0
    rotate_left
    · go_enter Try.func34, Try.ntmps34
      go_wp2_with fail
      refine (isLeft_any x _).mono ?_
      rintro e w' ⟨rfl, hw'⟩
      subst hw'
      rw [s1]
      go_wp2_with fail
      refine (isExtent_any x.w _).mono ?_
      rintro e w' ⟨rfl, hw'⟩
      subst hw'
      rw [h0]
      go_wp2
      go_ret
      exact ⟨ret_bool (by unfold goodA sideB; simp [s1, h0]), b2 _ _⟩
    rcases Bool.eq_false_or_eq_true (extB x.h) with h1 | h1
    rotate_left
    · go_enter Try.func34, Try.ntmps34
      go_wp2_with fail
      refine (isLeft_any x _).mono ?_
      rintro e w' ⟨rfl, hw'⟩
      subst hw'
      rw [s1]
      go_wp2_with fail
      refine (isExtent_any x.w _).mono ?_
      rintro e w' ⟨rfl, hw'⟩
      subst hw'
      rw [h0]
      go_wp2_with fail
      refine (isExtent_any x.h _).mono ?_
      rintro e w' ⟨rfl, hw'⟩
      subst hw'
      rw [h1]
      go_wp2
      go_ret
      exact ⟨ret_bool (by unfold goodA sideB; simp [s1, h0, h1]), b2 _ _⟩
    rcases Bool.eq_false_or_eq_true (nearB x.x) with h2 | h2
    rotate_left
    · go_enter Try.func34, Try.ntmps34
      go_wp2_with fail
      refine (isLeft_any x _).mono ?_
      rintro e w' ⟨rfl, hw'⟩
      subst hw'
      rw [s1]
      go_wp2_with fail
      refine (isExtent_any x.w _).mono ?_
      rintro e w' ⟨rfl, hw'⟩
      subst hw'
      rw [h0]
      go_wp2_with fail
      refine (isExtent_any x.h _).mono ?_
      rintro e w' ⟨rfl, hw'⟩
      subst hw'
      rw [h1]
      go_wp2_with fail
      refine (isNear_any x.x _).mono ?_
      rintro e w' ⟨rfl, hw'⟩
      subst hw'
      rw [h2]
      go_wp2
      go_ret
      exact ⟨ret_bool (by unfold goodA sideB; simp [s1, h0, h1, h2]), b2 _ _⟩
    rcases Bool.eq_false_or_eq_true (nearB x.y) with h3 | h3
    rotate_left
    · go_enter Try.func34, Try.ntmps34
      go_wp2_with fail
      refine (isLeft_any x _).mono ?_
      rintro e w' ⟨rfl, hw'⟩
      subst hw'
      rw [s1]
      go_wp2_with fail
      refine (isExtent_any x.w _).mono ?_
      rintro e w' ⟨rfl, hw'⟩
      subst hw'
      rw [h0]
      go_wp2_with fail
      refine (isExtent_any x.h _).mono ?_
      rintro e w' ⟨rfl, hw'⟩
      subst hw'
      rw [h1]
      go_wp2_with fail
      refine (isNear_any x.x _).mono ?_
      rintro e w' ⟨rfl, hw'⟩
      subst hw'
      rw [h2]
      go_wp2_with fail
      refine (isNear_any x.y _).mono ?_
      rintro e w' ⟨rfl, hw'⟩
      subst hw'
      rw [h3]
      go_wp2
      go_ret
      exact ⟨ret_bool (by unfold goodA sideB; simp [s1, h0, h1, h2, h3]), b2 _ _⟩
    go_enter Try.func34, Try.ntmps34
    go_wp2_with fail
    refine (isLeft_any x _).mono ?_
    rintro e w' ⟨rfl, hw'⟩
    subst hw'
    rw [s1]
    go_wp2_with fail
    refine (isExtent_any x.w _).mono ?_
    rintro e w' ⟨rfl, hw'⟩
    subst hw'
    rw [h0]
    go_wp2_with fail
    refine (isExtent_any x.h _).mono ?_
    rintro e w' ⟨rfl, hw'⟩
    subst hw'
    rw [h1]
    go_wp2_with fail
    refine (isNear_any x.x _).mono ?_
    rintro e w' ⟨rfl, hw'⟩
    subst hw'
    rw [h2]
    go_wp2_with fail
    refine (isNear_any x.y _).mono ?_
    rintro e w' ⟨rfl, hw'⟩
    subst hw'
    rw [h3]
    go_wp2
    go_ret
    exact ⟨ret_bool (by unfold goodA sideB; simp [s1, h0, h1, h2, h3]), b2 _ _⟩
  rcases Bool.eq_false_or_eq_true (decide (x.sd = 2)) with s2 | s2
  · rcases Bool.eq_false_or_eq_true (extB x.w) with h0 | h0
    rotate_left
    · go_enter Try.func34, Try.ntmps34
      go_wp2_with fail
      refine (isLeft_any x _).mono ?_
      rintro e w' ⟨rfl, hw'⟩
      subst hw'
      rw [s1]
      go_wp2_with fail
      refine (isRight_any x _).mono ?_
      rintro e w' ⟨rfl, hw'⟩
      subst hw'
      rw [s2]
      go_wp2_with fail
      refine (isExtent_any x.w _).mono ?_
      rintro e w' ⟨rfl, hw'⟩
      subst hw'
      rw [h0]
      go_wp2
      go_ret
      exact ⟨ret_bool (by unfold goodA sideB; simp [s1, s2, h0]), b3 _ _ _⟩
    rcases Bool.eq_false_or_eq_true (extB x.h) with h1 | h1
    rotate_left
    · go_enter Try.func34, Try.ntmps34
      go_wp2_with fail
      refine (isLeft_any x _).mono ?_
      rintro e w' ⟨rfl, hw'⟩
      subst hw'
      rw [s1]
      go_wp2_with fail
      refine (isRight_any x _).mono ?_
      rintro e w' ⟨rfl, hw'⟩
      subst hw'
      rw [s2]
      go_wp2_with fail
      refine (isExtent_any x.w _).mono ?_
      rintro e w' ⟨rfl, hw'⟩
      subst hw'
      rw [h0]
      go_wp2_with fail
      refine (isExtent_any x.h _).mono ?_
      rintro e w' ⟨rfl, hw'⟩
      subst hw'
      rw [h1]
      go_wp2
      go_ret
      exact ⟨ret_bool (by unfold goodA sideB; simp [s1, s2, h0, h1]), b3 _ _ _⟩
    rcases Bool.eq_false_or_eq_true (nearB x.x) with h2 | h2
    rotate_left
    · go_enter Try.func34, Try.ntmps34
      go_wp2_with fail
      refine (isLeft_any x _).mono ?_
      rintro e w' ⟨rfl, hw'⟩
      subst hw'
      rw [s1]
      go_wp2_with fail
      refine (isRight_any x _).mono ?_
      rintro e w' ⟨rfl, hw'⟩
      subst hw'
      rw [s2]
      go_wp2_with fail
      refine (isExtent_any x.w _).mono ?_
      rintro e w' ⟨rfl, hw'⟩
      subst hw'
      rw [h0]
      go_wp2_with fail
      refine (isExtent_any x.h _).mono ?_
      rintro e w' ⟨rfl, hw'⟩
      subst hw'
      rw [h1]
      go_wp2_with fail
      refine (isNear_any x.x _).mono ?_
      rintro e w' ⟨rfl, hw'⟩
      subst hw'
      rw [h2]
      go_wp2
      go_ret
      exact ⟨ret_bool (by unfold goodA sideB; simp [s1, s2, h0, h1, h2]), b3 _ _ _⟩
    rcases Bool.eq_false_or_eq_true (nearB x.y) with h3 | h3
    rotate_left
    · go_enter Try.func34, Try.ntmps34
      go_wp2_with fail
      refine (isLeft_any x _).mono ?_
      rintro e w' ⟨rfl, hw'⟩
      subst hw'
      rw [s1]
      go_wp2_with fail
      refine (isRight_any x _).mono ?_
      rintro e w' ⟨rfl, hw'⟩
      subst hw'
      rw [s2]
      go_wp2_with fail
      refine (isExtent_any x.w _).mono ?_
      rintro e w' ⟨rfl, hw'⟩
      subst hw'
      rw [h0]
      go_wp2_with fail
      refine (isExtent_any x.h _).mono ?_
      rintro e w' ⟨rfl, hw'⟩
      subst hw'
      rw [h1]
      go_wp2_with fail
      refine (isNear_any x.x _).mono ?_
      rintro e w' ⟨rfl, hw'⟩
      subst hw'
      rw [h2]
      go_wp2_with fail
      refine (isNear_any x.y _).mono ?_
      rintro e w' ⟨rfl, hw'⟩
      subst hw'
      rw [h3]
      go_wp2
      go_ret
      exact ⟨ret_bool (by unfold goodA sideB; simp [s1, s2, h0, h1, h2, h3]), b3 _ _ _⟩
    go_enter Try.func34, Try.ntmps34
    go_wp2_with fail
    refine (isLeft_any x _).mono ?_
    rintro e w' ⟨rfl, hw'⟩
    subst hw'
    rw [s1]
    go_wp2_with fail
    refine (isRight_any x _).mono ?_
    rintro e w' ⟨rfl, hw'⟩
    subst hw'
    rw [s2]
    go_wp2_with fail
    refine (isExtent_any x.w _).mono ?_
    rintro e w' ⟨rfl, hw'⟩
    subst hw'
    rw [h0]
    go_wp2_with fail
    refine (isExtent_any x.h _).mono ?_
    rintro e w' ⟨rfl, hw'⟩
    subst hw'
    rw [h1]
    go_wp2_with fail
    refine (isNear_any x.x _).mono ?_
    rintro e w' ⟨rfl, hw'⟩
    subst hw'
    rw [h2]
    go_wp2_with fail
    refine (isNear_any x.y _).mono ?_
    rintro e w' ⟨rfl, hw'⟩
    subst hw'
    rw [h3]
    go_wp2
    go_ret
    exact ⟨ret_bool (by unfold goodA sideB; simp [s1, s2, h0, h1, h2, h3]), b3 _ _ _⟩
  go_enter Try.func34, Try.ntmps34
  go_wp2_with fail
  refine (isLeft_any x _).mono ?_
  rintro e w' ⟨rfl, hw'⟩
  subst hw'
  rw [s1]
  go_wp2_with fail
  refine (isRight_any x _).mono ?_
  rintro e w' ⟨rfl, hw'⟩
  subst hw'
  rw [s2]
  go_wp2
  go_ret
  exact ⟨ret_bool (by unfold goodA sideB; rw [s1, s2]; rfl), b3 _ _ _⟩
end Go.Proofs.Ytdkfjdjgfmabgaa
