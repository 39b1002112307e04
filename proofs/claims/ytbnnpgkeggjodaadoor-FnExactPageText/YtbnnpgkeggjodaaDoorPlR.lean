/-
  Rows of places in memory: what it is that a slice reads as some places, and what keeps it so.
-/
import Derived.Test.YtbnnpgkeggjodaaDoorPlP
import Derived.Test.YtbnnpgkeggjodaaDoorWide
import Derived.Deep.MidRow
import Derived.Below
namespace Go.Proofs.YtbnnpgkeggjodaaDoor
open Go.ChangeShapes Go.WideShapes Go.ChangeAt Go.RowKit
set_option linter.unusedVariables false

/-- A slice value at address a reads as the places ns. -/
def PlRow (w : World) (a : Option Addr) (ns : List Plc) : Prop :=
  ns = [] ∨ ∃ b off, a = some ⟨b, off, none⟩ ∧ ∀ i n, ns[i]? = some n → w.rangeAt b (off + i * 4) (plL n)
theorem pl_lt {w : World} {b o : Nat} {n : Plc} (h : w.rangeAt b o (plL n)) : b < w.heap.size := World.block_lt_of_cell? _ _ (h 0 (.int .i64 n.x) rfl)
theorem pl_below {B : Nat} {w w' : World} {b o : Nat} {n : Plc} (h : w.rangeAt b o (plL n)) (hb : Below B w w') (hB : b < B) : w'.rangeAt b o (plL n) :=
  fun j v hv => (hb.cell (p := ⟨b, o + j, none⟩) hB).trans (h j v hv)
theorem PlRow.below {w w' : World} {a : Option Addr} {ns : List Plc} (h : PlRow w a ns) (hb : Below w.heap.size w w') : PlRow w' a ns := by
  rcases h with h | ⟨b, off, rfl, hc⟩
  · exact .inl h
  · exact .inr ⟨b, off, rfl, fun i n hn => pl_below (hc i n hn) hb (pl_lt (hc i n hn))⟩
theorem pl_setCells {B : Nat} {a : World} : ∀ (vs : List Value) (b o : Nat) (w : World), Below B a w → B ≤ b → Below B a (w.setCells b o vs)
  | [], _, _, _, h, _ => h
  | v :: vs, b, o, w, h, hb => by
    rw [World.setCells]
    exact pl_setCells vs b (o + 1) _ (h.setCell (p := ⟨b, o, none⟩) hb v) hb
/-- Places in memory that a call has made: it may write there. -/
structure PlOwn (w : World) (g : Nat) (n : Nat) (ns : List Plc) (k : Nat) : Prop where
  there : w.there g 0 (n * 4)
  rows : ∀ i x, i < k → ns[i]? = some x → w.rangeAt g (i * 4) (plL x)
theorem PlOwn.row {w : World} {g n : Nat} {ns : List Plc} (h : PlOwn w g n ns ns.length) : PlRow w (some ⟨g, 0, none⟩) ns :=
  .inr ⟨g, 0, rfl, fun i x hx => by rw [Nat.zero_add]; exact h.rows i x (List.getElem?_eq_some_iff.1 hx).1 hx⟩
theorem pl_there_below {B : Nat} {w w' : World} {g o n : Nat} (h : w.there g o n) (hb : Below B w w') (hB : g < B) : w'.there g o n := fun j hj =>
  ⟨by rw [hb.cell (p := ⟨g, o + j, none⟩) hB]; exact (h j hj).1, by rw [hb.frozen (p := ⟨g, o + j, none⟩) hB]; exact (h j hj).2⟩
theorem PlOwn.below {B : Nat} {w w' : World} {g n k : Nat} {ns : List Plc} (h : PlOwn w g n ns k) (hb : Below B w w') (hB : g < B) : PlOwn w' g n ns k :=
  ⟨pl_there_below h.there hb hB, fun i x hi hx => pl_below (h.rows i x hi hx) hb hB⟩
theorem pl_there_at {w : World} {g n k : Nat} (h : w.there g 0 (n * 4)) (hk : k < n) : w.there g (k * 4) 4 := fun j hj => by
  have := h (k * 4 + j) (by omega)
  rwa [Nat.zero_add] at this
theorem PlOwn.put {w : World} {g n k : Nat} {ns : List Plc} {x : Plc} (h : PlOwn w g n ns k) (hk : k < n) (hx : ns[k]? = some x) : PlOwn (w.setCells g (k * 4) (plL x)) g n ns (k + 1) := by
  refine ⟨World.there_setCells h.there _ _ _, fun i y hi hy => ?_⟩
  by_cases e : i = k
  · subst e
    obtain rfl : x = y := Option.some.inj (hx.symm.trans hy)
    exact World.rangeAt_setCells_same _ _ _ _ (pl_there_at h.there hk)
  · exact World.rangeAt_setCells_apart (h.rows i y (by omega) hy) _ _ _ (by right; left; rw [plL_len]; omega)
theorem pl_there_own {w : World} {base e size g n cap : Nat} {xs : List Value} (h : w.ownsRow base e size (.slice (some ⟨g, 0, none⟩) n cap) n xs) : w.there g 0 (n * size) := by
  rcases h.2 with ⟨h', _⟩ | ⟨g', cap', cur, h', _, hg, hn, _, hsz, _⟩
  · simp at h'
  · simp only [Value.slice.injEq, Option.some.injEq, Addr.mk.injEq, and_true, true_and] at h'
    obtain ⟨rfl, rfl⟩ := h'
    intro j hj
    have hl : j < cur.size := by rw [hsz]; exact Nat.lt_of_lt_of_le hj (Nat.mul_le_mul_right _ hn)
    refine ⟨by rw [cell_of_row w g (0 + j) cur e _ hg, Nat.zero_add, Array.getElem?_eq_getElem hl]; rfl, ?_⟩
    exact h.frozenAt (0 + j)
end Go.Proofs.YtbnnpgkeggjodaaDoor
