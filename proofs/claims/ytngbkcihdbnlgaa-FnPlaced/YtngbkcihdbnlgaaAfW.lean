/-
  Whether any float is at a stretch, and the next bottom: of the model and of the program, for every row of floats whose sums are no matter.
-/
import Derived.Test.YtngbkcihdbnlgaaAfV
import Derived.Test.YtngbkcihdbnlgaaAfH
namespace Go.Proofs.Ytngbkcihdbnlgaa
open Go.ChangeShapes Go.WideShapes Go.ChangeAt Go.RowKit
set_option linter.unusedVariables false

def endS (y high : Int) : Int := y + max high 1
def bot (x : Asd) : Int := x.y + x.h
def nextL (l : List Asd) (y : Int) : List Asd := l.filter fun x => decide (y < x.y + x.h)
def nextN (l : List Asd) (y : Int) : Int := le bot (nextL l y)
def nextB (l : List Asd) (y : Int) : Bool := !(nextL l y).isEmpty
theorem ret_tup2 {a b : Value} {c d : Value} (h : a = c) (k : b = d) : Ending.returned (.tuple #[a, b]) = .returned (.tuple #[c, d]) := by rw [h, k]
theorem le_nil (q : Asd → Int) : le q [] = 0 := rfl
theorem le_one (q : Asd → Int) (x : Asd) : le q [x] = q x := by simp [le, gr]
theorem le_snoc (q : Asd → Int) (l : List Asd) (x : Asd) (h : l ≠ []) : le q (l ++ [x]) = min (le q l) (q x) := by
  cases l with
  | nil => exact absurd rfl h
  | cons y ys =>
    unfold le
    rw [gr_snoc]
    omega
theorem any_filter (p : Asd → Bool) (l : List Asd) : decide ((0 : Int) < ((l.filter p).length : Int)) = l.any p := by
  rw [Bool.eq_iff_iff, decide_eq_true_eq, List.any_eq_true]
  constructor
  · intro h
    have h' : 0 < (l.filter p).length := by omega
    obtain ⟨x, hx⟩ := List.exists_mem_of_length_pos h'
    rw [List.mem_filter] at hx
    exact ⟨x, hx.1, hx.2⟩
  · rintro ⟨x, hx, hp⟩
    have : 0 < (l.filter p).length := List.length_pos_of_mem (List.mem_filter.2 ⟨hx, hp⟩)
    omega

set_option maxHeartbeats 4000000 in
theorem l7At_any (x : Asd) (y high : Int) (w : World) (hx : Fine x) (hy0 : -300000000 ≤ y) (hy1 : y ≤ 300000000) (hh0 : 0 ≤ high) (hh1 : high ≤ 1000000) :
    Calls Try.prog 57 #[.agg #[.int .i64 x.sd, .int .i64 x.x, .int .i64 x.y, .int .i64 x.w, .int .i64 x.h], .int .i64 y, .int .i64 high] w fun e w' => e = .returned (.bool (atB y (endS y high) x)) ∧ w' = w.alloc (.cells #[.int .i64 x.sd, .int .i64 x.x, .int .i64 x.y, .int .i64 x.w, .int .i64 x.h] 27) := by
  have h0 := hx.y0
  have h1 := hx.y1
  have h2 := hx.h0
  have h3 := hx.h1
  by_cases hz : high = 0
  · subst hz
    have HE : Hid (endS y 0 = y + 1) := by show endS y 0 = y + 1; unfold endS; omega
    by_cases hd : x.y < y + 1
    · go_enter Try.func57, Try.ntmps57
      go_wp2
      go_ret
      exact ⟨ret_bool (by unfold atB; rw [HE.out]; simp [hd]), rfl⟩
    · go_enter Try.func57, Try.ntmps57
      go_wp2
      go_ret
      exact ⟨ret_bool (by unfold atB; rw [HE.out, decide_eq_false (by omega)]; rfl), rfl⟩
  · have HE : Hid (endS y high = y + high) := by show endS y high = y + high; unfold endS; omega
    by_cases hd : x.y < y + high
    · go_enter Try.func57, Try.ntmps57
      go_wp2
      go_ret
      exact ⟨ret_bool (by unfold atB; rw [HE.out]; simp [hd]), rfl⟩
    · go_enter Try.func57, Try.ntmps57
      go_wp2
      go_ret
      exact ⟨ret_bool (by unfold atB; rw [HE.out, decide_eq_false (by omega)]; rfl), rfl⟩
theorem any_no {p : Asd → Bool} {l : List Asd} (h : ∀ (i : Nat) (x : Asd), i < l.length → l[i]? = some x → p x = false) : l.any p = false := by
  refine List.any_eq_false.2 fun x hx => ?_
  obtain ⟨i, hi⟩ := List.getElem?_of_mem hx
  simp [h i x (List.getElem?_eq_some_iff.1 hi).1 hi]
theorem any_yes {p : Asd → Bool} {l : List Asd} {k : Nat} {x : Asd} (hx : l[k]? = some x) (h : p x = true) : l.any p = true := List.any_eq_true.2 ⟨x, List.mem_of_getElem? hx, h⟩
theorem step_none {p : Asd → Bool} {l : List Asd} {k : Nat} {x : Asd} (hx : l[k]? = some x) (h : p x = false) (hp : ∀ (i : Nat) (x : Asd), i < k → l[i]? = some x → p x = false) (i : Nat) (y : Asd) (hi : i < k + 1) (hy : l[i]? = some y) : p y = false := by
  by_cases e : i = k
  · subst e
    obtain rfl := Option.some.inj (hx.symm.trans hy)
    exact h
  · exact hp i y (by omega) hy
set_option maxHeartbeats 4000000 in
theorem l7Any_any (a : Option Addr) (n cap : Nat) (l : List Asd) (y high : Int) (w : World) (hn : n = l.length) (hr : AsRow w a l) (hl : n ≤ 1048576) (hx : ∀ x ∈ l, Fine x) (hy0 : -300000000 ≤ y) (hy1 : y ≤ 300000000) (hh0 : 0 ≤ high) (hh1 : high ≤ 1000000) :
    Calls Try.prog 43 #[.slice a n cap, .int .i64 y, .int .i64 high] w fun e w' => e = .returned (.bool (l.any (atB y (endS y high)))) ∧ Below w.heap.size w w' := by
  have HN : Hid (n = l.length) := hn
  have HR : Hid (AsRow w a l) := hr
  have HF : Hid (∀ x ∈ l, Fine x) := hx
  have AT := fun x W hx => l7At_any x y high W hx hy0 hy1 hh0 hh1
  clear hn hr hx hy0 hy1 hh0 hh1
  go_enter Try.func43, Try.ntmps43
  go_wp2_with fail
  go_loopw [11] (fun i wr => ∃ k : Nat, k ≤ n ∧ i = .int .i64 k ∧ (∀ (i : Nat) (x : Asd), i < k → l[i]? = some x → atB y (endS y high) x = false) ∧ Below w.heap.size w wr) (fun i _ => n - (intOf i).toNat)
  case atStart => exact ⟨0, Nat.zero_le _, rfl, fun i x hi => absurd hi (by omega), Below.refl _ _⟩
  case round =>
    obtain ⟨k, hk, rfl, hp, hbw⟩ := hrel
    have HP : Hid (∀ (i : Nat) (x : Asd), i < k → l[i]? = some x → atB y (endS y high) x = false) := hp
    clear hp
    by_cases hlt : k < n
    rotate_left
    · have HG : Hid (l.any (atB y (endS y high)) = false) := any_no (fun i x hi hx => HP.out i x (by have := HN.out; omega) hx)
      go_wp2
      go_ret
      exact ⟨ret_bool HG.out.symm, hbw⟩
    obtain ⟨x, hx⟩ : ∃ x, l[k]? = some x := ⟨_, List.getElem?_eq_getElem (by have := HN.out; omega)⟩
    obtain ⟨b, off, rfl, hc⟩ := as_some HR.out hx
    have hr := as_below (hc k x hx) hbw (as_lt (hc k x hx))
    obtain ⟨q0, q1, q2, q3, q4⟩ := as_cells hr
    have HX : Hid (l[k]? = some x) := hx
    clear hc hx hr
    go_wp2_with fail
    refine (AT x _ (HF.out x (List.mem_of_getElem? HX.out))).mono ?_
    rintro e w2 ⟨rfl, hw2⟩
    have b2 : Below w.heap.size w w2 := (hbw.alloc hbw.size _).trans ((below_one hw2).mono (by have := hbw.size; simp; omega))
    clear hw2 hbw q0 q1 q2 q3 q4
    rcases Bool.eq_false_or_eq_true (atB y (endS y high) x) with hg | hg
    · rw [hg]
      go_wp2
      go_ret
      exact ⟨ret_bool (any_yes HX.out hg).symm, b2⟩
    · rw [hg]
      go_wp2
      go_roundw
      case rel => exact ⟨k + 1, by omega, by go_num, step_none HX.out hg HP.out, b2⟩
      case measure => simp [intOf]; omega
theorem next_yes {l : List Asd} {y : Int} {k : Nat} {x : Asd} (hx : l[k]? = some x) (h : y < x.y + x.h) : nextL (l.take (k + 1)) y = nextL (l.take k) y ++ [x] := filter_yes (p := fun x => decide (y < x.y + x.h)) hx (decide_eq_true h)
theorem next_no {l : List Asd} {y : Int} {k : Nat} {x : Asd} (hx : l[k]? = some x) (h : ¬ y < x.y + x.h) : nextL (l.take (k + 1)) y = nextL (l.take k) y := filter_no (p := fun x => decide (y < x.y + x.h)) hx (decide_eq_false h)
/-- What is next, so far. -/
structure NextAt (l : List Asd) (y : Int) (k : Nat) (o : Int) (f : Bool) : Prop where
  out : o = nextN (l.take k) y
  found : f = nextB (l.take k) y
theorem nextAt_no {l : List Asd} {y : Int} {k : Nat} {x : Asd} {o : Int} {f : Bool} (h : NextAt l y k o f) (hx : l[k]? = some x) (hy : ¬ y < x.y + x.h) : NextAt l y (k + 1) o f :=
  ⟨by unfold nextN; rw [next_no hx hy]; exact h.out, by unfold nextB; rw [next_no hx hy]; exact h.found⟩
theorem nextAt_first {l : List Asd} {y : Int} {k : Nat} {x : Asd} {o : Int} (h : NextAt l y k o false) (hx : l[k]? = some x) (hy : y < x.y + x.h) : NextAt l y (k + 1) (x.y + x.h) true := by
  have e : nextL (l.take k) y = [] := by
    have := h.found
    unfold nextB at this
    simpa using this
  refine ⟨by unfold nextN; rw [next_yes hx hy, e]; exact (le_one bot x).symm, by unfold nextB; rw [next_yes hx hy]; simp⟩
theorem nextAt_min {l : List Asd} {y : Int} {k : Nat} {x : Asd} {o o' : Int} (h : NextAt l y k o true) (hx : l[k]? = some x) (hy : y < x.y + x.h) (ho : o' = min o (x.y + x.h)) : NextAt l y (k + 1) o' true := by
  have e : nextL (l.take k) y ≠ [] := by
    have := h.found
    unfold nextB at this
    simpa using this
  refine ⟨by unfold nextN; rw [next_yes hx hy, le_snoc _ _ _ e, ho, h.out]; rfl, by unfold nextB; rw [next_yes hx hy]; simp⟩
set_option maxHeartbeats 4000000 in
theorem l7Next_any (a : Option Addr) (n cap : Nat) (l : List Asd) (y : Int) (w : World) (hn : n = l.length) (hr : AsRow w a l) (hl : n ≤ 1048576) (hx : ∀ x ∈ l, Fine x) :
    Calls Try.prog 45 #[.slice a n cap, .int .i64 y] w fun e w' => e = .returned (.tuple #[.int .i64 (nextN l y), .bool (nextB l y)]) ∧ Below w.heap.size w w' := by
  have HN : Hid (n = l.length) := hn
  have HR : Hid (AsRow w a l) := hr
  have HF : Hid (∀ x ∈ l, Fine x) := hx
  clear hn hr hx
  go_enter Try.func45, Try.ntmps45
  go_wp2_with fail
  go_loopw [6, 7, 13] (fun v f i wr => ∃ (k : Nat) (o : Int) (r : Bool), k ≤ n ∧ i = .int .i64 k ∧ v = .int .i64 o ∧ f = .bool r ∧ NextAt l y k o r ∧ Below w.heap.size w wr) (fun _ _ i _ => n - (intOf i).toNat)
  case atStart => exact ⟨0, 0, false, Nat.zero_le _, rfl, rfl, rfl, ⟨rfl, rfl⟩, Below.refl _ _⟩
  case round =>
    obtain ⟨k, o, r, hk, rfl, rfl, rfl, hp, hbw⟩ := hrel
    have HP : Hid (NextAt l y k o r) := hp
    clear hp
    by_cases hlt : k < n
    rotate_left
    · have HT : Hid (l.take k = l) := List.take_of_length_le (by have := HN.out; omega)
      go_wp2
      go_ret2
      exact ⟨ret_tup2 (by rw [← HT.out, ← HP.out.out]; rfl) (by rw [← HT.out, ← HP.out.found]; rfl), hbw⟩
    obtain ⟨x, hx⟩ : ∃ x, l[k]? = some x := ⟨_, List.getElem?_eq_getElem (by have := HN.out; omega)⟩
    obtain ⟨b, off, rfl, hc⟩ := as_some HR.out hx
    have hr := as_below (hc k x hx) hbw (as_lt (hc k x hx))
    obtain ⟨q0, q1, q2, q3, q4⟩ := as_cells hr
    have HX : Hid (l[k]? = some x) := hx
    have fx := HF.out x (List.mem_of_getElem? hx)
    have f0 := fx.y0
    have f1 := fx.y1
    have f2 := fx.h0
    have f3 := fx.h1
    clear hc hx hr fx
    have b2 : ∀ o, Below w.heap.size w (wr.alloc o) := fun o => hbw.alloc hbw.size _
    by_cases hy : y < x.y + x.h
    · cases r
      · go_wp2
        go_roundw
        case rel => exact ⟨k + 1, _, _, by omega, by go_num, rfl, rfl, nextAt_first HP.out HX.out hy, b2 _⟩
        case measure => simp [intOf]; omega
      · by_cases ho : x.y + x.h < o
        · go_wp2
          go_roundw
          case rel => exact ⟨k + 1, _, _, by omega, by go_num, rfl, rfl, nextAt_min HP.out HX.out hy (by omega), b2 _⟩
          case measure => simp [intOf]; omega
        · go_wp2
          go_roundw
          case rel => exact ⟨k + 1, _, _, by omega, by go_num, rfl, rfl, nextAt_min HP.out HX.out hy (by omega), b2 _⟩
          case measure => simp [intOf]; omega
    · go_wp2
      go_roundw
      case rel => exact ⟨k + 1, _, _, by omega, by go_num, rfl, rfl, nextAt_no HP.out HX.out hy, b2 _⟩
      case measure => simp [intOf]; omega
end Go.Proofs.Ytngbkcihdbnlgaa
