/-
  The program's small functions of one float: its edges, whether it is at a stretch.
-/
import Derived.Test.YtdkfjdjgfmabgaaAfU
import Derived.Deep.RegionHeld3
import Derived.Shelf.Abstract
namespace Go.Proofs.Ytdkfjdjgfmabgaa
open Go.ChangeShapes Go.WideShapes Go.ChangeAt Go.RowKit
set_option linter.unusedVariables false

/-- A float of which sums are no matter. -/
structure Fine (x : Asd) : Prop where
  x0 : -300000000 ≤ x.x
  x1 : x.x ≤ 300000000
  y0 : -300000000 ≤ x.y
  y1 : x.y ≤ 300000000
  w0 : 0 ≤ x.w
  w1 : x.w ≤ 1000000
  h0 : 0 ≤ x.h
  h1 : x.h ≤ 1000000
theorem goodA_fine {x : Asd} (h : goodA x = true) : Fine x := by
  obtain ⟨_, a, b, c, d⟩ := goodA_parts h
  exact ⟨by omega, by omega, by omega, by omega, by omega, by omega, by omega, by omega⟩
theorem goodF_fine {l : List Asd} (h : goodF l = true) {x : Asd} (hx : x ∈ l) : Fine x := goodA_fine (goodF_mem h hx)

set_option maxHeartbeats 1000000 in
theorem bottomOf_any (x : Asd) (w : World) (hx : Fine x) : Calls Try.prog 41 #[.agg #[.int .i64 x.sd, .int .i64 x.x, .int .i64 x.y, .int .i64 x.w, .int .i64 x.h]] w fun e w' => e = .returned (.int .i64 (x.y + x.h)) ∧ w' = w.alloc (.cells #[.int .i64 x.sd, .int .i64 x.x, .int .i64 x.y, .int .i64 x.w, .int .i64 x.h] 47) := by
  have h0 := hx.y0
  have h1 := hx.y1
  have h2 := hx.h0
  have h3 := hx.h1
  go_enter Try.func41, Try.ntmps41
  go_wp2
  go_ret
  exact ⟨rfl, rfl⟩
set_option maxHeartbeats 1000000 in
theorem endOf_any (x : Asd) (w : World) (hx : Fine x) : Calls Try.prog 40 #[.agg #[.int .i64 x.sd, .int .i64 x.x, .int .i64 x.y, .int .i64 x.w, .int .i64 x.h]] w fun e w' => e = .returned (.int .i64 (x.x + x.w)) ∧ w' = w.alloc (.cells #[.int .i64 x.sd, .int .i64 x.x, .int .i64 x.y, .int .i64 x.w, .int .i64 x.h] 47) := by
  have h0 := hx.x0
  have h1 := hx.x1
  have h2 := hx.w0
  have h3 := hx.w1
  go_enter Try.func40, Try.ntmps40
  go_wp2
  go_ret
  exact ⟨rfl, rfl⟩
/-- A call that makes one block leaves all else. -/
theorem below_one {w w' : World} {o : Obj} (h : w' = w.alloc o) : Below w.heap.size w w' := by
  subst h
  exact (Below.refl _ _).alloc (Nat.le_refl _) _

theorem bottomOf_b (x : Asd) (w : World) (hx : Fine x) : Calls Try.prog 41 #[.agg #[.int .i64 x.sd, .int .i64 x.x, .int .i64 x.y, .int .i64 x.w, .int .i64 x.h]] w fun e w' => e = .returned (.int .i64 (x.y + x.h)) ∧ Below w.heap.size w w' :=
  (bottomOf_any x w hx).mono fun e w' h => ⟨h.1, below_one h.2⟩
theorem endOf_b (x : Asd) (w : World) (hx : Fine x) : Calls Try.prog 40 #[.agg #[.int .i64 x.sd, .int .i64 x.x, .int .i64 x.y, .int .i64 x.w, .int .i64 x.h]] w fun e w' => e = .returned (.int .i64 (x.x + x.w)) ∧ Below w.heap.size w w' :=
  (endOf_any x w hx).mono fun e w' h => ⟨h.1, below_one h.2⟩
theorem cell_at {w : World} {g : Nat} {c : Array Value} {t : TypeId} {fr : Nat × Nat} (h : w.heap[g]? = some (.cells c t fr)) (j : Nat) {v : Value} (hj : c[j]? = some v) : w.cell? ⟨g, j, none⟩ = some v := (lies_cell h j).trans hj
theorem keep6 {w w' : World} {g g' : Nat} {x : Asd} {u : Value} {t : TypeId} {fr : Nat × Nat} (hb : Below w.heap.size w w') (h : w.heap[g]? = some (.cells #[.int .i64 x.sd, .int .i64 x.x, .int .i64 x.y, .int .i64 x.w, .int .i64 x.h] t fr)) (h' : w.cell? ⟨g', 0, none⟩ = some u) :
    w'.cell? ⟨g', 0, none⟩ = some u ∧ w'.cell? ⟨g, 0, none⟩ = some (.int .i64 x.sd) ∧ w'.cell? ⟨g, 1, none⟩ = some (.int .i64 x.x) ∧ w'.cell? ⟨g, 2, none⟩ = some (.int .i64 x.y) ∧ w'.cell? ⟨g, 3, none⟩ = some (.int .i64 x.w) ∧ w'.cell? ⟨g, 4, none⟩ = some (.int .i64 x.h) := by
  have l := below_lies hb h (lies_lt h)
  exact ⟨(hb.cell (World.block_lt_of_cell? _ _ h')).trans h', cell_at l 0 rfl, cell_at l 1 rfl, cell_at l 2 rfl, cell_at l 3 rfl, cell_at l 4 rfl⟩
/-- Whether a float is at the stretch from t to e. -/
def atB (t e : Int) (x : Asd) : Bool := decide (x.y < e) && decide (t < x.y + x.h)
theorem keep7 {w w' : World} {g g' : Nat} {x : Asd} {t e : Int} {T T' : TypeId} {fr fr' : Nat × Nat} (hb : Below w.heap.size w w') (h : w.heap[g]? = some (.cells #[.int .i64 x.sd, .int .i64 x.x, .int .i64 x.y, .int .i64 x.w, .int .i64 x.h] T fr)) (h' : w.heap[g']? = some (.cells #[.int .i64 t, .int .i64 e] T' fr')) :
    w'.cell? ⟨g', 0, none⟩ = some (.int .i64 t) ∧ w'.cell? ⟨g', 1, none⟩ = some (.int .i64 e) ∧ w'.cell? ⟨g, 0, none⟩ = some (.int .i64 x.sd) ∧ w'.cell? ⟨g, 1, none⟩ = some (.int .i64 x.x) ∧ w'.cell? ⟨g, 2, none⟩ = some (.int .i64 x.y) ∧ w'.cell? ⟨g, 3, none⟩ = some (.int .i64 x.w) ∧ w'.cell? ⟨g, 4, none⟩ = some (.int .i64 x.h) := by
  have l := below_lies hb h (lies_lt h)
  have l' := below_lies hb h' (lies_lt h')
  exact ⟨cell_at l' 0 rfl, cell_at l' 1 rfl, cell_at l 0 rfl, cell_at l 1 rfl, cell_at l 2 rfl, cell_at l 3 rfl, cell_at l 4 rfl⟩
/-- The least of what q tells of a row that is not empty. -/
def le (q : Asd → Int) (l : List Asd) : Int := -(gr (fun y => -(q y)) l)
theorem gr_bd {q : Asd → Int} {A B : Int} {x : Asd} {xs : List Asd} (h : ∀ y ∈ x :: xs, A ≤ q y ∧ q y ≤ B) : A ≤ gr q (x :: xs) ∧ gr q (x :: xs) ≤ B := by
  have hx := h x (by simp)
  refine ⟨?_, gr_le xs (q x) hx.2 (fun y hy => (h y (by simp [hy])).2)⟩
  have := (gr_ge (q := q) xs (q x)).1
  show A ≤ xs.foldl (fun m y => max m (q y)) (q x)
  omega
end Go.Proofs.Ytdkfjdjgfmabgaa
