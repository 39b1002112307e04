/-
  Where a float is placed, as plain mathematics: it ends, and what it has.
-/
import Derived.Test.YtngbkcihdbnlgaaAfD
import Derived.Test.YtngbkcihdbnlgaaAfM
namespace Go.Proofs.Ytngbkcihdbnlgaa
open Go.ChangeShapes Go.WideShapes Go.ChangeAt Go.RowKit
set_option linter.unusedVariables false

def topx (x : Asd) : Int := x.y
def begY (l : List Asd) (y : Int) : Int := mx topx l y
def okAt (l : List Asd) (wide high left right Y : Int) : Bool := !(l.any (atB Y (endS Y high))) || decide (wide ≤ roomB Y (endS Y high) l right - roomA Y (endS Y high) l left)
def putY (l : List Asd) (wide high left right : Int) : Nat → Int → Int
  | 0, Y => Y
  | f + 1, Y => if okAt l wide high left right Y then Y else putY l wide high left right f (nextN l Y)
def putX (l : List Asd) (side wide high left right Y : Int) : Int := if side = 2 then roomB Y (endS Y high) l right - wide else roomA Y (endS Y high) l left
def putF (l : List Asd) (side wide high y left right : Int) : Asd :=
  ⟨side, putX l side wide high left right (putY l wide high left right (l.length + 1) (begY l y)), putY l wide high left right (l.length + 1) (begY l y), wide, high⟩
theorem gr_mem (q : Asd → Int) : ∀ (xs : List Asd) (x : Asd), ∃ y ∈ x :: xs, gr q (x :: xs) = q y
  | [], x => ⟨x, by simp, rfl⟩
  | z :: zs, x => by
    by_cases h : q x ≤ q z
    · obtain ⟨y, hy, e⟩ := gr_mem q zs z
      refine ⟨y, List.mem_cons_of_mem _ hy, ?_⟩
      rw [← e]
      show zs.foldl (fun m y => max m (q y)) (max (q x) (q z)) = zs.foldl (fun m y => max m (q y)) (q z)
      rw [show max (q x) (q z) = q z by omega]
    · obtain ⟨y, hy, e⟩ := gr_mem q zs x
      refine ⟨y, ?_, ?_⟩
      · rcases List.mem_cons.1 hy with rfl | hy
        · simp
        · simp [hy]
      · rw [← e]
        show zs.foldl (fun m y => max m (q y)) (max (q x) (q z)) = zs.foldl (fun m y => max m (q y)) (q x)
        rw [show max (q x) (q z) = q x by omega]
theorem le_mem (q : Asd → Int) {l : List Asd} (h : l ≠ []) : ∃ y ∈ l, le q l = q y := by
  cases l with
  | nil => exact absurd rfl h
  | cons x xs =>
    obtain ⟨y, hy, e⟩ := gr_mem (fun y => -(q y)) xs x
    exact ⟨y, hy, by unfold le; rw [e]; omega⟩
/-- Where no place was found there is a next bottom, further down, and fewer end below it. -/
theorem next_down {l : List Asd} {wide high left right Y : Int} (h : okAt l wide high left right Y = false) : ∃ o ∈ l, nextN l Y = o.y + o.h ∧ Y < o.y + o.h ∧ (nextL l (nextN l Y)).length < (nextL l Y).length := by
  unfold okAt at h
  rw [Bool.or_eq_false_iff] at h
  have ha : l.any (atB Y (endS Y high)) = true := by simpa using h.1
  obtain ⟨o, ho, hat⟩ := List.any_eq_true.1 ha
  unfold atB at hat
  rw [Bool.and_eq_true, decide_eq_true_eq, decide_eq_true_eq] at hat
  have hne : nextL l Y ≠ [] := fun e => by
    have : o ∈ nextL l Y := List.mem_filter.2 ⟨ho, decide_eq_true hat.2⟩
    rw [e] at this
    simp at this
  obtain ⟨p, hp, e⟩ := le_mem bot hne
  have hp' := List.mem_filter.1 hp
  have hpY : Y < p.y + p.h := of_decide_eq_true hp'.2
  have eN : nextN l Y = p.y + p.h := e
  refine ⟨p, hp'.1, eN, hpY, ?_⟩
  have e2 : nextL l (nextN l Y) = (nextL l Y).filter (fun x => decide (nextN l Y < x.y + x.h)) := by
    unfold nextL
    rw [List.filter_filter]
    refine List.filter_congr fun x _ => ?_
    rw [Bool.eq_iff_iff, Bool.and_eq_true, decide_eq_true_eq, decide_eq_true_eq]
    show nextN l Y < x.y + x.h ↔ nextN l Y < x.y + x.h ∧ Y < x.y + x.h
    omega
  rw [e2]
  exact List.length_filter_lt_length_iff_exists.2 ⟨p, hp, by simp; omega⟩
/-- What is known of the place that is found. -/
structure Putd (l : List Asd) (wide high left right y : Int) (Y : Int) : Prop where
  ok : okAt l wide high left right Y = true
  ge : begY l y ≤ Y
  at_ : Y = begY l y ∨ ∃ o ∈ l, Y = o.y + o.h
theorem putY_put {l : List Asd} {wide high left right y : Int} : ∀ (f : Nat) (Y : Int), (nextL l Y).length < f → begY l y ≤ Y → (Y = begY l y ∨ ∃ o ∈ l, Y = o.y + o.h) → Putd l wide high left right y (putY l wide high left right f Y)
  | 0, Y, h, _, _ => absurd h (by omega)
  | f + 1, Y, h, hge, hat => by
    unfold putY
    split
    · rename_i hok
      exact ⟨hok, hge, hat⟩
    · rename_i hok
      obtain ⟨o, ho, e, hlt, hlen⟩ := next_down (l := l) (wide := wide) (high := high) (left := left) (right := right) (Y := Y) (by simpa using hok)
      exact putY_put f _ (by omega) (by omega) (.inr ⟨o, ho, e⟩)
theorem put_F (l : List Asd) (side wide high y left right : Int) : Putd l wide high left right y (putF l side wide high y left right).y :=
  putY_put _ _ (Nat.lt_succ_of_le (List.length_filter_le _ _)) (Int.le_refl _) (.inl rfl)
theorem beg_ge (l : List Asd) (y : Int) : y ≤ begY l y ∧ ∀ x ∈ l, x.y ≤ begY l y := mx_ge topx l y
theorem beg_le {l : List Asd} {y B : Int} (h : y ≤ B) (hy : ∀ x ∈ l, x.y ≤ B) : begY l y ≤ B := mx_le (q := topx) h hy
theorem roomA_bd {t e : Int} {l : List Asd} {left B : Int} (h : left ≤ B) (hy : ∀ x ∈ l, x.x + x.w ≤ B) : left ≤ roomA t e l left ∧ roomA t e l left ≤ B :=
  ⟨(mx_ge endx _ _).1, mx_le (q := endx) h (fun x hx => hy x (List.mem_filter.1 (List.mem_filter.1 hx).1).1)⟩
theorem roomB_bd {t e : Int} {l : List Asd} {right B : Int} (h : B ≤ right) (hy : ∀ x ∈ l, B ≤ x.x) : B ≤ roomB t e l right ∧ roomB t e l right ≤ right := by
  unfold roomB
  rw [mn_neg]
  have h1 := (mx_ge (fun y => -(begx y)) (rightL t e l) (-right)).1
  have h2 : mx (fun y => -(begx y)) (rightL t e l) (-right) ≤ -B := mx_le (by omega) (fun x hx => by
    have := hy x (List.mem_filter.1 (List.mem_filter.1 hx).1).1
    show -(x.x) ≤ -B
    omega)
  omega
theorem roomA_at {t e : Int} {l : List Asd} {left : Int} {o : Asd} (ho : o ∈ l) (hs : o.sd = 1) (ha : atB t e o = true) : o.x + o.w ≤ roomA t e l left :=
  (mx_ge endx (leftL t e l) left).2 o (List.mem_filter.2 ⟨List.mem_filter.2 ⟨ho, ha⟩, decide_eq_true hs⟩)
theorem roomB_at {t e : Int} {l : List Asd} {right : Int} {o : Asd} (ho : o ∈ l) (hs : o.sd = 2) (ha : atB t e o = true) : roomB t e l right ≤ o.x := by
  have := (mx_ge (fun y => -(begx y)) (rightL t e l) (-right)).2 o (List.mem_filter.2 ⟨List.mem_filter.2 ⟨ho, ha⟩, decide_eq_true hs⟩)
  unfold roomB
  rw [mn_neg]
  have h' : -(o.x) ≤ mx (fun y => -(begx y)) (rightL t e l) (-right) := this
  omega
/-- All of a row within B. -/
structure Near (B : Int) (x : Asd) : Prop where
  lo : -B ≤ x.x
  hi : x.x + x.w ≤ B
  bo : x.y + x.h ≤ B
  x1 : x.x ≤ B
/-- Where a placed float lies. -/
theorem putF_near {l : List Asd} {side wide high y left right B D : Int} (hl : ∀ x ∈ l, Near B x ∧ 0 ≤ x.h) (hB : 0 ≤ B) (hw : 0 ≤ wide) (hwD : wide ≤ D) (hl0 : -B ≤ left) (hl1 : left ≤ B) (hr0 : -B ≤ right) (hr1 : right ≤ B) :
    -(B + D) ≤ (putF l side wide high y left right).x ∧ (putF l side wide high y left right).x ≤ B := by
  show -(B + D) ≤ putX l side wide high left right _ ∧ putX l side wide high left right _ ≤ B
  generalize putY l wide high left right (l.length + 1) (begY l y) = Y
  have a := roomA_bd (t := Y) (e := endS Y high) (l := l) (left := left) (B := B) hl1 (fun x hx => (hl x hx).1.hi)
  have b := roomB_bd (t := Y) (e := endS Y high) (l := l) (right := right) (B := -B) hr0 (fun x hx => (hl x hx).1.lo)
  unfold putX
  split <;> omega
theorem putF_top {l : List Asd} {side wide high y left right B : Int} (hl : ∀ x ∈ l, Near B x ∧ 0 ≤ x.h) (hy : y ≤ B) : (putF l side wide high y left right).y ≤ B := by
  have p := put_F l side wide high y left right
  rcases p.at_ with h | ⟨o, ho, h⟩
  · rw [h]
    exact beg_le hy (fun x hx => by have := hl x hx; have := this.1.bo; omega)
  · rw [h]
    exact (hl o ho).1.bo
/-- A placed float is apart from the others. -/
theorem putF_apart {l : List Asd} {side wide high y left right : Int} (hl : ∀ x ∈ l, goodA x = true) (hs : side = 1 ∨ side = 2) (hh : 0 ≤ high) {o : Asd} (ho : o ∈ l) : meetB (putF l side wide high y left right) o = false := by
  have p := put_F l side wide high y left right
  obtain ⟨gs, _, _, _, _⟩ := goodA_parts (hl o ho)
  cases hm : meetB (putF l side wide high y left right) o with
  | false => rfl
  | true =>
    exfalso
    unfold meetB at hm
    rw [Bool.and_eq_true, decide_eq_true_eq, decide_eq_true_eq] at hm
    obtain ⟨h1, h2⟩ := hm
    have ew : (putF l side wide high y left right).w = wide := rfl
    have eh : (putF l side wide high y left right).h = high := rfl
    have ex : (putF l side wide high y left right).x = putX l side wide high left right (putF l side wide high y left right).y := rfl
    rw [ew, ex] at h1
    rw [eh] at h2
    generalize (putF l side wide high y left right).y = Y at p h1 h2
    have hat : atB Y (endS Y high) o = true := by
      unfold atB endS
      rw [Bool.and_eq_true, decide_eq_true_eq, decide_eq_true_eq]
      omega
    have hok := p.ok
    unfold okAt at hok
    rw [List.any_eq_true.2 ⟨o, ho, hat⟩] at hok
    have hwd : wide ≤ roomB Y (endS Y high) l right - roomA Y (endS Y high) l left := by simpa using hok
    unfold putX at h1
    rcases gs with gs | gs
    · have := roomA_at (left := left) ho gs hat
      rcases hs with rfl | rfl
      · rw [if_neg (by decide)] at h1; omega
      · rw [if_pos rfl] at h1; omega
    · have := roomB_at (right := right) ho gs hat
      rcases hs with rfl | rfl
      · rw [if_neg (by decide)] at h1; omega
      · rw [if_pos rfl] at h1; omega
end Go.Proofs.Ytngbkcihdbnlgaa
