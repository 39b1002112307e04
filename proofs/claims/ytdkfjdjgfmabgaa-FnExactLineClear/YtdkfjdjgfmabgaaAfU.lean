/-
  The greatest and the least of what a function tells of the floats of a row, for every function that answers and leaves memory alone.
-/
import Derived.Test.YtdkfjdjgfmabgaaAfT
namespace Go.Proofs.Ytdkfjdjgfmabgaa
open Go.ChangeShapes Go.WideShapes Go.ChangeAt Go.RowKit
set_option linter.unusedVariables false

/-- The greatest of what q tells of a row that is not empty. -/
def gr (q : Asd → Int) : List Asd → Int
  | [] => 0
  | x :: xs => xs.foldl (fun m y => max m (q y)) (q x)
theorem gr_snoc (q : Asd → Int) (x : Asd) (xs : List Asd) (y : Asd) : gr q (x :: xs ++ [y]) = max (gr q (x :: xs)) (q y) := by simp [gr]
theorem gr_le {q : Asd → Int} {B : Int} : ∀ (xs : List Asd) (m : Int), (m ≤ B) → (∀ y ∈ xs, q y ≤ B) → xs.foldl (fun m y => max m (q y)) m ≤ B
  | [], m, h, _ => h
  | y :: ys, m, h, hy => gr_le ys (max m (q y)) (by have := hy y (by simp); omega) (fun z hz => hy z (by simp [hz]))
theorem gr_ge {q : Asd → Int} : ∀ (xs : List Asd) (m : Int), m ≤ xs.foldl (fun m y => max m (q y)) m ∧ ∀ y ∈ xs, q y ≤ xs.foldl (fun m y => max m (q y)) m
  | [], m => ⟨Int.le_refl _, fun y hy => by simp at hy⟩
  | y :: ys, m => by
    obtain ⟨h1, h2⟩ := gr_ge (q := q) ys (max m (q y))
    rw [List.foldl_cons]
    refine ⟨by omega, fun z hz => ?_⟩
    rcases List.mem_cons.1 hz with rfl | hz
    · omega
    · exact h2 z hz
theorem gr_take {q : Asd → Int} {x : Asd} {xs : List Asd} {j : Nat} {y : Asd} (hy : xs[j]? = some y) : gr q (x :: xs.take (j + 1)) = max (gr q (x :: xs.take j)) (q y) := by
  rw [List.take_add_one, hy]
  exact gr_snoc q x _ y
end Go.Proofs.Ytdkfjdjgfmabgaa
