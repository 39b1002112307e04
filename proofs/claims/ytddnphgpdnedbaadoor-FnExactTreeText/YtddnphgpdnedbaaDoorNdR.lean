/-
  Rows of nodes in memory: what it is that a slice reads as some nodes, and what keeps it so.
-/
import Derived.Test.YtddnphgpdnedbaaDoorTreeP
import Derived.Test.YtddnphgpdnedbaaDoorWide
import Derived.Deep.MidRow
import Derived.Below
namespace Go.Proofs.YtddnphgpdnedbaaDoor
open Go.ChangeShapes Go.WideShapes Go.ChangeAt Go.RowKit
set_option linter.unusedVariables false

/-- A slice value at address a reads as the nodes ns. -/
def NdRow (w : World) (a : Option Addr) (ns : List Nd) : Prop :=
  ns = [] ∨ ∃ b off, a = some ⟨b, off, none⟩ ∧ ∀ i n, ns[i]? = some n → w.rangeAt b (off + i * 28) (ndL n)
theorem range_lt {w : World} {b o : Nat} {n : Nd} (h : w.rangeAt b o (ndL n)) : b < w.heap.size := World.block_lt_of_cell? _ _ (h 0 (.int .i64 n.up) rfl)
theorem range_below {B : Nat} {w w' : World} {b o : Nat} {n : Nd} (h : w.rangeAt b o (ndL n)) (hb : Below B w w') (hB : b < B) : w'.rangeAt b o (ndL n) :=
  fun j v hv => (hb.cell (p := ⟨b, o + j, none⟩) hB).trans (h j v hv)
theorem NdRow.below {w w' : World} {a : Option Addr} {ns : List Nd} (h : NdRow w a ns) (hb : Below w.heap.size w w') : NdRow w' a ns := by
  rcases h with h | ⟨b, off, rfl, hc⟩
  · exact .inl h
  · exact .inr ⟨b, off, rfl, fun i n hn => range_below (hc i n hn) hb (range_lt (hc i n hn))⟩
theorem below_setCells {B : Nat} {a : World} : ∀ (vs : List Value) (b o : Nat) (w : World), Below B a w → B ≤ b → Below B a (w.setCells b o vs)
  | [], _, _, _, h, _ => h
  | v :: vs, b, o, w, h, hb => by
    rw [World.setCells]
    exact below_setCells vs b (o + 1) _ (h.setCell (p := ⟨b, o, none⟩) hb v) hb
/-- Nodes in memory that a call has made: it may write there. -/
structure NdOwn (w : World) (g : Nat) (n : Nat) (ns : List Nd) (k : Nat) : Prop where
  there : w.there g 0 (n * 28)
  rows : ∀ i x, i < k → ns[i]? = some x → w.rangeAt g (i * 28) (ndL x)
theorem NdOwn.row {w : World} {g n : Nat} {ns : List Nd} (h : NdOwn w g n ns ns.length) : NdRow w (some ⟨g, 0, none⟩) ns :=
  .inr ⟨g, 0, rfl, fun i x hx => by rw [Nat.zero_add]; exact h.rows i x (List.getElem?_eq_some_iff.1 hx).1 hx⟩
theorem there_below {B : Nat} {w w' : World} {g o n : Nat} (h : w.there g o n) (hb : Below B w w') (hB : g < B) : w'.there g o n := fun j hj =>
  ⟨by rw [hb.cell (p := ⟨g, o + j, none⟩) hB]; exact (h j hj).1, by rw [hb.frozen (p := ⟨g, o + j, none⟩) hB]; exact (h j hj).2⟩
theorem NdOwn.below {B : Nat} {w w' : World} {g n k : Nat} {ns : List Nd} (h : NdOwn w g n ns k) (hb : Below B w w') (hB : g < B) : NdOwn w' g n ns k :=
  ⟨there_below h.there hb hB, fun i x hi hx => range_below (h.rows i x hi hx) hb hB⟩
theorem there_at {w : World} {g n k : Nat} (h : w.there g 0 (n * 28)) (hk : k < n) : w.there g (k * 28) 28 := fun j hj => by
  have := h (k * 28 + j) (by omega)
  rwa [Nat.zero_add] at this
theorem NdOwn.put {w : World} {g n k : Nat} {ns : List Nd} {x : Nd} (h : NdOwn w g n ns k) (hk : k < n) (hx : ns[k]? = some x) : NdOwn (w.setCells g (k * 28) (ndL x)) g n ns (k + 1) := by
  refine ⟨World.there_setCells h.there _ _ _, fun i y hi hy => ?_⟩
  by_cases e : i = k
  · subst e
    obtain rfl : x = y := Option.some.inj (hx.symm.trans hy)
    exact World.rangeAt_setCells_same _ _ _ _ (there_at h.there hk)
  · exact World.rangeAt_setCells_apart (h.rows i y (by omega) hy) _ _ _ (by right; left; rw [ndL_len]; omega)
theorem there_own {w : World} {base e size g n cap : Nat} {xs : List Value} (h : w.ownsRow base e size (.slice (some ⟨g, 0, none⟩) n cap) n xs) : w.there g 0 (n * size) := by
  rcases h.2 with ⟨h', _⟩ | ⟨g', cap', cur, h', _, hg, hn, _, hsz, _⟩
  · simp at h'
  · simp only [Value.slice.injEq, Option.some.injEq, Addr.mk.injEq, and_true, true_and] at h'
    obtain ⟨rfl, rfl⟩ := h'
    intro j hj
    have hl : j < cur.size := by rw [hsz]; exact Nat.lt_of_lt_of_le hj (Nat.mul_le_mul_right _ hn)
    refine ⟨by rw [cell_of_row w g (0 + j) cur e _ hg, Nat.zero_add, Array.getElem?_eq_getElem hl]; rfl, ?_⟩
    exact h.frozenAt (0 + j)
end Go.Proofs.YtddnphgpdnedbaaDoor
