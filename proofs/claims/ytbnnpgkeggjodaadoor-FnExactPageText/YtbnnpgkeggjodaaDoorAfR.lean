/-
  Rows of floats in memory: what it is that a slice reads as some floats, and what keeps it so.
-/
import Derived.Test.YtbnnpgkeggjodaaDoorAfP
import Derived.Test.YtbnnpgkeggjodaaDoorWide
import Derived.Deep.MidRow
import Derived.Below
namespace Go.Proofs.YtbnnpgkeggjodaaDoor
open Go.ChangeShapes Go.WideShapes Go.ChangeAt Go.RowKit
set_option linter.unusedVariables false

/-- A slice value at address a reads as the floats ns. -/
def AsRow (w : World) (a : Option Addr) (ns : List Asd) : Prop :=
  ns = [] ∨ ∃ b off, a = some ⟨b, off, none⟩ ∧ ∀ i n, ns[i]? = some n → w.rangeAt b (off + i * 5) (asL n)
theorem as_lt {w : World} {b o : Nat} {n : Asd} (h : w.rangeAt b o (asL n)) : b < w.heap.size := World.block_lt_of_cell? _ _ (h 0 (.int .i64 n.sd) rfl)
theorem as_below {B : Nat} {w w' : World} {b o : Nat} {n : Asd} (h : w.rangeAt b o (asL n)) (hb : Below B w w') (hB : b < B) : w'.rangeAt b o (asL n) :=
  fun j v hv => (hb.cell (p := ⟨b, o + j, none⟩) hB).trans (h j v hv)
theorem AsRow.below {w w' : World} {a : Option Addr} {ns : List Asd} (h : AsRow w a ns) (hb : Below w.heap.size w w') : AsRow w' a ns := by
  rcases h with h | ⟨b, off, rfl, hc⟩
  · exact .inl h
  · exact .inr ⟨b, off, rfl, fun i n hn => as_below (hc i n hn) hb (as_lt (hc i n hn))⟩
theorem as_setCells {B : Nat} {a : World} : ∀ (vs : List Value) (b o : Nat) (w : World), Below B a w → B ≤ b → Below B a (w.setCells b o vs)
  | [], _, _, _, h, _ => h
  | v :: vs, b, o, w, h, hb => by
    rw [World.setCells]
    exact as_setCells vs b (o + 1) _ (h.setCell (p := ⟨b, o, none⟩) hb v) hb
/-- Floats in memory that a call has made: it may write there. -/
structure AsOwn (w : World) (g : Nat) (n : Nat) (ns : List Asd) (k : Nat) : Prop where
  there : w.there g 0 (n * 5)
  rows : ∀ i x, i < k → ns[i]? = some x → w.rangeAt g (i * 5) (asL x)
theorem AsOwn.row {w : World} {g n : Nat} {ns : List Asd} (h : AsOwn w g n ns ns.length) : AsRow w (some ⟨g, 0, none⟩) ns :=
  .inr ⟨g, 0, rfl, fun i x hx => by rw [Nat.zero_add]; exact h.rows i x (List.getElem?_eq_some_iff.1 hx).1 hx⟩
theorem as_there_below {B : Nat} {w w' : World} {g o n : Nat} (h : w.there g o n) (hb : Below B w w') (hB : g < B) : w'.there g o n := fun j hj =>
  ⟨by rw [hb.cell (p := ⟨g, o + j, none⟩) hB]; exact (h j hj).1, by rw [hb.frozen (p := ⟨g, o + j, none⟩) hB]; exact (h j hj).2⟩
theorem AsOwn.below {B : Nat} {w w' : World} {g n k : Nat} {ns : List Asd} (h : AsOwn w g n ns k) (hb : Below B w w') (hB : g < B) : AsOwn w' g n ns k :=
  ⟨as_there_below h.there hb hB, fun i x hi hx => as_below (h.rows i x hi hx) hb hB⟩
theorem as_there_at {w : World} {g n k : Nat} (h : w.there g 0 (n * 5)) (hk : k < n) : w.there g (k * 5) 5 := fun j hj => by
  have := h (k * 5 + j) (by omega)
  rwa [Nat.zero_add] at this
theorem AsOwn.put {w : World} {g n k : Nat} {ns : List Asd} {x : Asd} (h : AsOwn w g n ns k) (hk : k < n) (hx : ns[k]? = some x) : AsOwn (w.setCells g (k * 5) (asL x)) g n ns (k + 1) := by
  refine ⟨World.there_setCells h.there _ _ _, fun i y hi hy => ?_⟩
  by_cases e : i = k
  · subst e
    obtain rfl : x = y := Option.some.inj (hx.symm.trans hy)
    exact World.rangeAt_setCells_same _ _ _ _ (as_there_at h.there hk)
  · exact World.rangeAt_setCells_apart (h.rows i y (by omega) hy) _ _ _ (by right; left; rw [asL_len]; omega)
theorem as_there_own {w : World} {base e size g n cap : Nat} {xs : List Value} (h : w.ownsRow base e size (.slice (some ⟨g, 0, none⟩) n cap) n xs) : w.there g 0 (n * size) := by
  rcases h.2 with ⟨h', _⟩ | ⟨g', cap', cur, h', _, hg, hn, _, hsz, _⟩
  · simp at h'
  · simp only [Value.slice.injEq, Option.some.injEq, Addr.mk.injEq, and_true, true_and] at h'
    obtain ⟨rfl, rfl⟩ := h'
    intro j hj
    have hl : j < cur.size := by rw [hsz]; exact Nat.lt_of_lt_of_le hj (Nat.mul_le_mul_right _ hn)
    refine ⟨by rw [cell_of_row w g (0 + j) cur e _ hg, Nat.zero_add, Array.getElem?_eq_getElem hl]; rfl, ?_⟩
    exact h.frozenAt (0 + j)
end Go.Proofs.YtbnnpgkeggjodaaDoor
