/-
  The plain numbers behind JoinMargins: the greatest of the margins above 0 and the least of those below 0, taken one by one from the left.
-/
namespace Go.Proofs.YtijondjiehoafaaDoor
def goodB (n : Int) : Bool := decide (-1000000 ≤ n ∧ n ≤ 1000000)
theorem goodB_yes {n : Int} (h : -1000000 ≤ n) (k : n ≤ 1000000) : goodB n = true := decide_eq_true ⟨h, k⟩
theorem goodB_no {n : Int} (h : ¬ (-1000000 ≤ n ∧ n ≤ 1000000)) : goodB n = false := decide_eq_false h
theorem goodB_of {n : Int} (h : goodB n = true) : -1000000 ≤ n ∧ n ≤ 1000000 := of_decide_eq_true h
def up (l : List Int) : Int := l.foldl (fun m z => max m z) 0
def lo (l : List Int) : Int := l.foldl (fun m z => min m z) 0
theorem up_snoc (l : List Int) (z : Int) : up (l ++ [z]) = max (up l) z := by simp [up]
theorem lo_snoc (l : List Int) (z : Int) : lo (l ++ [z]) = min (lo l) z := by simp [lo]
theorem take_next (zs : List Int) (k : Nat) (h : k < zs.length) : zs.take (k + 1) = zs.take k ++ [zs.getD k 0] := by
  rw [List.take_succ_eq_append_getElem h, List.getD_eq_getElem?_getD, List.getElem?_eq_getElem h]; rfl
theorem up_next (zs : List Int) (k : Nat) (h : k < zs.length) : up (zs.take (k + 1)) = max (up (zs.take k)) (zs.getD k 0) := by rw [take_next zs k h, up_snoc]
theorem lo_next (zs : List Int) (k : Nat) (h : k < zs.length) : lo (zs.take (k + 1)) = min (lo (zs.take k)) (zs.getD k 0) := by rw [take_next zs k h, lo_snoc]
/-- The first k numbers are lengths. -/
def GoodTo (zs : List Int) (k : Nat) : Prop := ∀ j, j < k → goodB (zs.getD j 0) = true
theorem goodTo_zero (zs : List Int) : GoodTo zs 0 := fun j h => absurd h (by omega)
theorem goodTo_next {zs : List Int} {k : Nat} (h : GoodTo zs k) (hk : goodB (zs.getD k 0) = true) : GoodTo zs (k + 1) := fun j hj => by
  by_cases e : j = k
  · subst e; exact hk
  · exact h j (by omega)
theorem up_bd {zs : List Int} : ∀ k, k ≤ zs.length → GoodTo zs k → 0 ≤ up (zs.take k) ∧ up (zs.take k) ≤ 1000000 := by
  intro k
  induction k with
  | zero => intro _ _; simp [up]
  | succ k ih =>
    intro hk hg
    have h1 := ih (by omega) (fun j hj => hg j (by omega))
    have h2 := goodB_of (hg k (by omega))
    rw [up_next zs k (by omega)]
    omega
theorem lo_bd {zs : List Int} : ∀ k, k ≤ zs.length → GoodTo zs k → -1000000 ≤ lo (zs.take k) ∧ lo (zs.take k) ≤ 0 := by
  intro k
  induction k with
  | zero => intro _ _; simp [lo]
  | succ k ih =>
    intro hk hg
    have h1 := ih (by omega) (fun j hj => hg j (by omega))
    have h2 := goodB_of (hg k (by omega))
    rw [lo_next zs k (by omega)]
    omega
def joinB (zs : List Int) : Bool := decide (zs.length ≤ 40) && zs.all goodB
def joinN (zs : List Int) : Int := if joinB zs then up zs + lo zs else 0
theorem joinB_yes {zs : List Int} (h : zs.length ≤ 40) (g : GoodTo zs zs.length) : joinB zs = true := by
  have : zs.all goodB = true := by
    rw [List.all_eq_true]
    intro x hx
    obtain ⟨j, hj, rfl⟩ := List.getElem_of_mem hx
    have := g j hj
    rwa [List.getD_eq_getElem?_getD, List.getElem?_eq_getElem hj] at this
  simp [joinB, h, this]
theorem joinB_long {zs : List Int} (h : ¬ zs.length ≤ 40) : joinB zs = false := by simp [joinB, h]
theorem joinB_bad {zs : List Int} {k : Nat} (hk : k < zs.length) (h : goodB (zs.getD k 0) = false) : joinB zs = false := by
  have : zs.all goodB = false := by
    rw [List.all_eq_false]
    refine ⟨zs[k], List.getElem_mem hk, ?_⟩
    rw [List.getD_eq_getElem?_getD, List.getElem?_eq_getElem hk] at h
    simpa using h
  simp [joinB, this]
theorem joinN_yes {zs : List Int} (h : joinB zs = true) : joinN zs = up zs + lo zs := by simp [joinN, h]
theorem joinN_no {zs : List Int} (h : joinB zs = false) : joinN zs = 0 := by simp [joinN, h]
end Go.Proofs.YtijondjiehoafaaDoor
