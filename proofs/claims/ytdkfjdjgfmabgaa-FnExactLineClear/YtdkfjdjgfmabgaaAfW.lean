/-
  Whether any float is at a stretch, and the next bottom: of the model and of the program, for every row of floats whose sums are no matter.
-/
import Derived.Test.YtdkfjdjgfmabgaaAfV
import Derived.Test.YtdkfjdjgfmabgaaAfH
namespace Go.Proofs.Ytdkfjdjgfmabgaa
open Go.ChangeShapes Go.WideShapes Go.ChangeAt Go.RowKit
set_option linter.unusedVariables false

def endS (y high : Int) : Int := y + max high 1
def bot (x : Asd) : Int := x.y + x.h
def nextL (l : List Asd) (y : Int) : List Asd := l.filter fun x => decide (y < x.y + x.h)
def nextN (l : List Asd) (y : Int) : Int := le bot (nextL l y)
def nextB (l : List Asd) (y : Int) : Bool := !(nextL l y).isEmpty
theorem ret_tup2 {a b : Value} {c d : Value} (h : a = c) (k : b = d) : Ending.returned (.tuple #[a, b]) = .returned (.tuple #[c, d]) := by rw [h, k]
theorem le_nil (q : Asd → Int) : le q [] = 0 := rfl
theorem le_one (q : Asd → Int) (x : Asd) : le q [x] = q x := by simp [le, gr]
theorem le_snoc (q : Asd → Int) (l : List Asd) (x : Asd) (h : l ≠ []) : le q (l ++ [x]) = min (le q l) (q x) := by
  cases l with
  | nil => exact absurd rfl h
  | cons y ys =>
    unfold le
    rw [gr_snoc]
    omega
theorem any_filter (p : Asd → Bool) (l : List Asd) : decide ((0 : Int) < ((l.filter p).length : Int)) = l.any p := by
  rw [Bool.eq_iff_iff, decide_eq_true_eq, List.any_eq_true]
  constructor
  · intro h
    have h' : 0 < (l.filter p).length := by omega
    obtain ⟨x, hx⟩ := List.exists_mem_of_length_pos h'
    rw [List.mem_filter] at hx
    exact ⟨x, hx.1, hx.2⟩
  · rintro ⟨x, hx, hp⟩
    have : 0 < (l.filter p).length := List.length_pos_of_mem (List.mem_filter.2 ⟨hx, hp⟩)
    omega

theorem any_no {p : Asd → Bool} {l : List Asd} (h : ∀ (i : Nat) (x : Asd), i < l.length → l[i]? = some x → p x = false) : l.any p = false := by
  refine List.any_eq_false.2 fun x hx => ?_
  obtain ⟨i, hi⟩ := List.getElem?_of_mem hx
  simp [h i x (List.getElem?_eq_some_iff.1 hi).1 hi]
theorem any_yes {p : Asd → Bool} {l : List Asd} {k : Nat} {x : Asd} (hx : l[k]? = some x) (h : p x = true) : l.any p = true := List.any_eq_true.2 ⟨x, List.mem_of_getElem? hx, h⟩
theorem step_none {p : Asd → Bool} {l : List Asd} {k : Nat} {x : Asd} (hx : l[k]? = some x) (h : p x = false) (hp : ∀ (i : Nat) (x : Asd), i < k → l[i]? = some x → p x = false) (i : Nat) (y : Asd) (hi : i < k + 1) (hy : l[i]? = some y) : p y = false := by
  by_cases e : i = k
  · subst e
    obtain rfl := Option.some.inj (hx.symm.trans hy)
    exact h
  · exact hp i y (by omega) hy
theorem next_yes {l : List Asd} {y : Int} {k : Nat} {x : Asd} (hx : l[k]? = some x) (h : y < x.y + x.h) : nextL (l.take (k + 1)) y = nextL (l.take k) y ++ [x] := filter_yes (p := fun x => decide (y < x.y + x.h)) hx (decide_eq_true h)
theorem next_no {l : List Asd} {y : Int} {k : Nat} {x : Asd} (hx : l[k]? = some x) (h : ¬ y < x.y + x.h) : nextL (l.take (k + 1)) y = nextL (l.take k) y := filter_no (p := fun x => decide (y < x.y + x.h)) hx (decide_eq_false h)
/-- What is next, so far. -/
structure NextAt (l : List Asd) (y : Int) (k : Nat) (o : Int) (f : Bool) : Prop where
  out : o = nextN (l.take k) y
  found : f = nextB (l.take k) y
theorem nextAt_no {l : List Asd} {y : Int} {k : Nat} {x : Asd} {o : Int} {f : Bool} (h : NextAt l y k o f) (hx : l[k]? = some x) (hy : ¬ y < x.y + x.h) : NextAt l y (k + 1) o f :=
  ⟨by unfold nextN; rw [next_no hx hy]; exact h.out, by unfold nextB; rw [next_no hx hy]; exact h.found⟩
theorem nextAt_first {l : List Asd} {y : Int} {k : Nat} {x : Asd} {o : Int} (h : NextAt l y k o false) (hx : l[k]? = some x) (hy : y < x.y + x.h) : NextAt l y (k + 1) (x.y + x.h) true := by
  have e : nextL (l.take k) y = [] := by
    have := h.found
    unfold nextB at this
    simpa using this
  refine ⟨by unfold nextN; rw [next_yes hx hy, e]; exact (le_one bot x).symm, by unfold nextB; rw [next_yes hx hy]; simp⟩
theorem nextAt_min {l : List Asd} {y : Int} {k : Nat} {x : Asd} {o o' : Int} (h : NextAt l y k o true) (hx : l[k]? = some x) (hy : y < x.y + x.h) (ho : o' = min o (x.y + x.h)) : NextAt l y (k + 1) o' true := by
  have e : nextL (l.take k) y ≠ [] := by
    have := h.found
    unfold nextB at this
    simpa using this
  refine ⟨by unfold nextN; rw [next_yes hx hy, le_snoc _ _ _ e, ho, h.out]; rfl, by unfold nextB; rw [next_yes hx hy]; simp⟩
end Go.Proofs.Ytdkfjdjgfmabgaa
