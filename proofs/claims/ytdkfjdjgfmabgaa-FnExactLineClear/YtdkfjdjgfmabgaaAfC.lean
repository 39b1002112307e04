/-
  The room at a stretch: of the model and of the program, for every row of floats whose sums are no matter.
-/
import Derived.Test.YtdkfjdjgfmabgaaAfB
namespace Go.Proofs.Ytdkfjdjgfmabgaa
open Go.ChangeShapes Go.WideShapes Go.ChangeAt Go.RowKit
set_option linter.unusedVariables false

def mx (q : Asd → Int) (l : List Asd) (b : Int) : Int := l.foldl (fun m y => max m (q y)) b
def mn (q : Asd → Int) (l : List Asd) (b : Int) : Int := l.foldl (fun m y => min m (q y)) b
theorem mx_snoc (q : Asd → Int) (l : List Asd) (b : Int) (x : Asd) : mx q (l ++ [x]) b = max (mx q l b) (q x) := by simp [mx]
theorem mn_snoc (q : Asd → Int) (l : List Asd) (b : Int) (x : Asd) : mn q (l ++ [x]) b = min (mn q l b) (q x) := by simp [mn]
theorem mx_max (q : Asd → Int) : ∀ (l : List Asd) (a b : Int), mx q l (max a b) = max a (mx q l b)
  | [], a, b => rfl
  | x :: xs, a, b => by
    show mx q xs (max (max a b) (q x)) = max a (mx q xs (max b (q x)))
    rw [Int.max_assoc, mx_max q xs]
theorem gr_mx (q : Asd → Int) (l : List Asd) (z : Asd) : gr q (l ++ [z]) = mx q l (q z) := by
  cases l with
  | nil => rfl
  | cons x xs =>
    show mx q (xs ++ [z]) (q x) = mx q xs (max (q z) (q x))
    rw [mx_snoc, mx_max, Int.max_comm]
theorem mn_neg (q : Asd → Int) : ∀ (l : List Asd) (b : Int), mn q l b = -(mx (fun y => -(q y)) l (-b))
  | [], b => by simp [mn, mx]
  | x :: xs, b => by
    show mn q xs (min b (q x)) = -(mx (fun y => -(q y)) xs (max (-b) (-(q x))))
    rw [mn_neg q xs]
    congr 2
    omega
theorem le_mn (q : Asd → Int) (l : List Asd) (z : Asd) : le q (l ++ [z]) = mn q l (q z) := by
  unfold le
  rw [gr_mx, mn_neg]
theorem mx_ge (q : Asd → Int) (l : List Asd) (b : Int) : b ≤ mx q l b ∧ ∀ y ∈ l, q y ≤ mx q l b := gr_ge l b
theorem mx_le {q : Asd → Int} {l : List Asd} {b B : Int} (h : b ≤ B) (hy : ∀ y ∈ l, q y ≤ B) : mx q l b ≤ B := gr_le l b h hy
def endx (x : Asd) : Int := x.x + x.w
def begx (x : Asd) : Int := x.x
def roomA (t e : Int) (l : List Asd) (left : Int) : Int := mx endx (leftL t e l) left
def roomB (t e : Int) (l : List Asd) (right : Int) : Int := mn begx (rightL t e l) right
theorem list_snoc_cons (l : List Asd) (z : Asd) : ∃ x xs, l ++ [z] = x :: xs ∧ xs.length = l.length := by
  cases l with
  | nil => exact ⟨z, [], rfl, rfl⟩
  | cons x xs => exact ⟨x, xs ++ [z], rfl, by simp⟩
theorem fine_at {x : Int} (h0 : -300000000 ≤ x) (h1 : x ≤ 300000000) : Fine ⟨0, x, 0, 0, 0⟩ := ⟨h0, h1, by simp, by simp, by simp, by simp, by simp, by simp⟩
theorem grown_row {w w' : World} {g off : Nat} {ns : List Asd} {row : Option Nat} (h : AsRow w (some ⟨g, off, none⟩) ns) (hg : w.grownBy w' row) (hne : some g ≠ row) : AsRow w' (some ⟨g, off, none⟩) ns := by
  rcases h with h | ⟨b, o, e, hc⟩
  · exact .inl h
  · simp only [Option.some.injEq, Addr.mk.injEq, and_true] at e
    obtain ⟨rfl, rfl⟩ := e
    exact .inr ⟨g, off, rfl, fun i x hx j v hv => (World.grownBy.cell hg (hc i x hx j v hv) hne)⟩
end Go.Proofs.Ytdkfjdjgfmabgaa
