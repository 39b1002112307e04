/-
  The law's own copy of a style is that style.
  Trees as plain data: a node, the chain of a node (those around it, the outermost first, and itself), what a good tree is, and why it is enough to keep the chain of the node ahead.
  Rows of nodes in memory: what it is that a slice reads as some nodes, and what keeps it so.
  The law's own copy of a node is that node; its size; its comparison with itself.
  The law's own comparison of nodes with themselves.
  A node is a text if its style is the zero one: both sides' tests.
  The law's own copies, sizes and comparisons of rows of nodes.
  The law's own comparison of a row of nodes with another of the same nodes.
-/
import Derived.Test.YtddnphgpdnedbaaGreatDoorSty
import Derived.WalkKit
import Derived.ProofKit
import Derived.OpenShut
import Derived.WalkSpells
import Derived.WalkLawsBesides
import Derived.Deep.QuietTactic
import Derived.BigQuiet
import Derived.Great.Walk
import Derived.Test.YtddnphgpdnedbaaGreatDoorWide
import Derived.Deep.MidRow
import Derived.Below
import Derived.OwnWalk
import Derived.Laws.StructEq
import Derived.Deep.RegionHeld3
namespace Go.Proofs.YtddnphgpdnedbaaGreatDoor
open Go.ChangeShapes Go.WideShapes Go.ChangeAt Go.RowKit
set_option linter.unusedVariables false

end Go.Proofs.YtddnphgpdnedbaaGreatDoor

namespace Go.Proofs.YtddnphgpdnedbaaGreatDoor
set_option linter.unusedVariables false

structure Nd where
  up : Int
  tx : ByteArray
  st : St
def ndL (n : Nd) : List Value := [.int .i64 n.up, .string n.tx, .int .i64 n.st.sh, .int .i64 n.st.fl, .int .i64 n.st.cl, .bool n.st.w.a, .bool n.st.w.p, .int .i64 n.st.w.n, .bool n.st.h.a, .bool n.st.h.p, .int .i64 n.st.h.n, .int .i64 n.st.mn, .int .i64 n.st.mx, .int .i64 n.st.mt, .bool n.st.mr.a, .bool n.st.mr.p, .int .i64 n.st.mr.n, .int .i64 n.st.mb, .bool n.st.ml.a, .bool n.st.ml.p, .int .i64 n.st.ml.n, .int .i64 n.st.bo, .int .i64 n.st.pa, .int .i64 n.st.wh, .int .i64 n.st.al, .int .i64 n.st.lh, .int .i64 n.st.ri, .int .i64 n.st.dn]
theorem ndL_len (n : Nd) : (ndL n).length = 28 := rfl

/-- The zero size, the zero style. -/
def szZ (a p : Bool) (n : Int) : Bool := !a && !p && decide (n = 0)
def zeroS (s : St) : Bool := decide (s.sh = 0) && decide (s.fl = 0) && decide (s.cl = 0) && szZ s.w.a s.w.p s.w.n && szZ s.h.a s.h.p s.h.n && decide (s.mn = 0) && decide (s.mx = 0) && decide (s.mt = 0) && szZ s.mr.a s.mr.p s.mr.n && decide (s.mb = 0) && szZ s.ml.a s.ml.p s.ml.n && decide (s.bo = 0) && decide (s.pa = 0) && decide (s.wh = 0) && decide (s.al = 0) && decide (s.lh = 0) && decide (s.ri = 0) && decide (s.dn = 0)
def nd0 : Nd := ⟨0, ByteArray.empty, ⟨0, 0, 0, ⟨false, false, 0⟩, ⟨false, false, 0⟩, 0, 0, 0, ⟨false, false, 0⟩, 0, ⟨false, false, 0⟩, 0, 0, 0, 0, 0, 0, 0⟩⟩
/-- Where node k stands in; whether it is a text. -/
def upL (ns : List Nd) (k : Nat) : Int := (ns.getD k nd0).up
def isT (ns : List Nd) (k : Nat) : Bool := zeroS (ns.getD k nd0).st

/-- The chain of node k: those around it, the outermost first, and itself. -/
def chainL (ns : List Nd) (k : Nat) : List Int :=
  if h : 0 ≤ upL ns k ∧ (upL ns k).toNat < k then chainL ns (upL ns k).toNat ++ [(k : Int)] else [(k : Int)]
termination_by k
decreasing_by exact h.2
theorem chain_in {ns : List Nd} {k u : Nat} (h : upL ns k = (u : Int)) (hu : u < k) : chainL ns k = chainL ns u ++ [(k : Int)] := by
  rw [chainL, dif_pos ⟨by omega, by rw [h]; simpa using hu⟩, h]
  rfl
theorem chain_top {ns : List Nd} {k : Nat} (h : upL ns k < 0) : chainL ns k = [(k : Int)] := by
  rw [chainL, dif_neg (by omega)]

/-- Node k stands as it may, behind nodes that do. -/
structure Stands (ns : List Nd) (k : Nat) : Prop where
  top : k = 0 → upL ns k = -1
  ups : 0 < k → ∃ u : Nat, u < k ∧ upL ns k = (u : Int) ∧ (u : Int) ∈ chainL ns (k - 1) ∧ isT ns u = false
  deep : 0 < k → (chainL ns (upL ns k).toNat).length < 8

theorem chain_bound (ns : List Nd) : ∀ (k : Nat) (x : Int), x ∈ chainL ns k → 0 ≤ x ∧ x ≤ (k : Int)
  | k, x, hx => by
    rw [chainL] at hx
    split at hx
    · rename_i h
      rw [List.mem_append, List.mem_singleton] at hx
      rcases hx with hx | rfl
      · have := chain_bound ns (upL ns k).toNat x hx
        omega
      · omega
    · rw [List.mem_singleton] at hx
      omega
termination_by k => k
theorem chain_last (ns : List Nd) (k : Nat) : (k : Int) ∈ chainL ns k := by
  rw [chainL]
  split <;> simp
/-- What is around a node that stands is no text. -/
theorem chain_elem {ns : List Nd} : ∀ (k : Nat), (∀ j, j ≤ k → Stands ns j) → ∀ u : Nat, (u : Int) ∈ chainL ns k → u ≠ k → isT ns u = false
  | k, hs, u, hu, hne => by
    by_cases h0 : k = 0
    · subst h0
      have := chain_bound ns 0 u hu
      omega
    · obtain ⟨v, hv, e, hin, ht⟩ := (hs k (Nat.le_refl _)).ups (by omega)
      rw [chain_in e hv, List.mem_append, List.mem_singleton] at hu
      rcases hu with hu | hu
      · by_cases huv : u = v
        · subst huv; exact ht
        · exact chain_elem v (fun j hj => hs j (by omega)) u hu huv
      · omega
termination_by k => k

/-- The place of a number in a row. -/
def idxL (x : Int) : List Int → Nat
  | [] => 0
  | y :: ys => if y = x then 0 else idxL x ys + 1
theorem idx_lt {x : Int} : ∀ {l : List Int}, x ∈ l → idxL x l < l.length
  | y :: ys, h => by
    rw [idxL]
    split
    · simp
    · have : x ∈ ys := by rcases List.mem_cons.1 h with e | e; exact absurd e.symm ‹_›; exact e
      have := idx_lt this
      simp; omega
theorem idx_out {x : Int} : ∀ {l : List Int}, x ∉ l → idxL x l = l.length
  | [], _ => rfl
  | y :: ys, h => by
    rw [idxL, if_neg (fun e => h (by simp [e])), idx_out (fun e => h (List.mem_cons_of_mem _ e))]
    rfl
theorem idx_at {x : Int} : ∀ {l : List Int}, x ∈ l → l.getD (idxL x l) 0 = x
  | y :: ys, h => by
    rw [idxL]
    split
    · rename_i e; simpa using e
    · have : x ∈ ys := by rcases List.mem_cons.1 h with e | e; exact absurd e.symm ‹_›; exact e
      simpa using idx_at this
theorem idx_before {x : Int} : ∀ {l : List Int} {j : Nat}, j < idxL x l → l.getD j 0 ≠ x
  | [], j, h => by simp [idxL] at h
  | y :: ys, j, h => by
    rw [idxL] at h
    split at h
    · omega
    · rename_i e
      cases j with
      | zero => simpa using e
      | succ j => simpa using idx_before (l := ys) (j := j) (by omega)
theorem idx_append_left {x : Int} : ∀ {l r : List Int}, x ∈ l → idxL x (l ++ r) = idxL x l
  | y :: ys, r, h => by
    rw [List.cons_append, idxL, idxL]
    split
    · rfl
    · have : x ∈ ys := by rcases List.mem_cons.1 h with e | e; exact absurd e.symm ‹_›; exact e
      rw [idx_append_left this]
theorem idx_append_right {x : Int} : ∀ {l r : List Int}, x ∉ l → idxL x (l ++ r) = l.length + idxL x r
  | [], r, _ => by simp
  | y :: ys, r, h => by
    rw [List.cons_append, idxL, if_neg (fun e => h (by simp [e])), idx_append_right (fun e => h (List.mem_cons_of_mem _ e))]
    simp; omega
/-- What of a chain reaches up to a node in it is that node's chain. -/
theorem chain_take {ns : List Nd} : ∀ (k u : Nat), (u : Int) ∈ chainL ns k → (chainL ns k).take (idxL u (chainL ns k) + 1) = chainL ns u
  | k, u, hu => by
    by_cases hk : 0 ≤ upL ns k ∧ (upL ns k).toNat < k
    · have e : upL ns k = ((upL ns k).toNat : Int) := by omega
      have ec := chain_in e hk.2
      by_cases huk : u = k
      · subst huk
        have hn : (u : Int) ∉ chainL ns (upL ns u).toNat := fun h => by
          have := chain_bound ns _ _ h
          omega
        rw [ec, idx_append_right hn]
        simp only [idxL, if_true, Nat.add_zero]
        exact List.take_of_length_le (by simp)
      · have hu' : (u : Int) ∈ chainL ns (upL ns k).toNat := by
          rw [ec, List.mem_append, List.mem_singleton] at hu
          rcases hu with h | h
          · exact h
          · omega
        rw [ec, idx_append_left hu', List.take_append_of_le_length (by have := idx_lt hu'; omega)]
        exact chain_take _ _ hu'
    · have ec : chainL ns k = [(k : Int)] := by rw [chainL, dif_neg hk]
      rw [ec, List.mem_singleton] at hu
      have : u = k := by omega
      subst this
      rw [ec]
      simp [idxL]
termination_by k => k
decreasing_by exact hk.2

/-- What node i may stand in: the chain of the node ahead, without it if it is a text. -/
def aroundL (ns : List Nd) : Nat → List Int
  | 0 => []
  | i + 1 => if isT ns i = true then (if i = 0 then [] else chainL ns (upL ns i).toNat) else chainL ns i
theorem around_in {ns : List Nd} {i : Nat} (h0 : 0 < i) (hT0 : isT ns 0 = false) (hs : ∀ j, j < i → Stands ns j) (x : Int) :
    x ∈ aroundL ns i ↔ ∃ u : Nat, u < i ∧ x = (u : Int) ∧ (u : Int) ∈ chainL ns (i - 1) ∧ isT ns u = false := by
  obtain ⟨i, rfl⟩ : ∃ j, i = j + 1 := ⟨i - 1, by omega⟩
  rw [Nat.add_sub_cancel, aroundL]
  constructor
  · intro hx
    split at hx
    · rename_i hT
      split at hx
      · simp at hx
      · rename_i hi0
        obtain ⟨v, hv, e, hin, ht⟩ := (hs i (by omega)).ups (by omega)
        have hb := chain_bound ns _ _ hx
        rw [e] at hx hb
        refine ⟨x.toNat, by simp at hb; omega, by omega, ?_, ?_⟩
        · rw [chain_in e hv, List.mem_append]
          left
          rw [show (x.toNat : Int) = x by omega]
          simpa using hx
        · by_cases hxv : x.toNat = v
          · rw [hxv]; exact ht
          · exact chain_elem v (fun j hj => hs j (by omega)) _ (by rw [show (x.toNat : Int) = x by omega]; simpa using hx) hxv
    · rename_i hT
      have hb := chain_bound ns _ _ hx
      refine ⟨x.toNat, by omega, by omega, by rw [show (x.toNat : Int) = x by omega]; exact hx, ?_⟩
      by_cases hxi : x.toNat = i
      · rw [hxi]; simpa using hT
      · exact chain_elem i (fun j hj => hs j (by omega)) _ (by rw [show (x.toNat : Int) = x by omega]; exact hx) hxi
  · rintro ⟨u, hu, rfl, hin, ht⟩
    split
    · rename_i hT
      have hui : u ≠ i := fun e => by subst e; rw [hT] at ht; cases ht
      by_cases hi0 : i = 0
      · omega
      · rw [if_neg hi0]
        obtain ⟨v, hv, e, hin', ht'⟩ := (hs i (by omega)).ups (by omega)
        rw [chain_in e hv, List.mem_append, List.mem_singleton] at hin
        rw [e]
        rcases hin with h | h
        · simpa using h
        · omega
    · exact hin
theorem around_take {ns : List Nd} {i : Nat} (u : Nat) (hu : (u : Int) ∈ aroundL ns i) : (aroundL ns i).take (idxL u (aroundL ns i) + 1) = chainL ns u := by
  cases i with
  | zero => simp [aroundL] at hu
  | succ i =>
    rw [aroundL] at hu ⊢
    split at hu
    · split at hu
      · simp at hu
      · rename_i h1 h2
        rw [if_pos h1, if_neg h2]
        exact chain_take _ _ hu
    · rename_i h1
      rw [if_neg h1]
      exact chain_take _ _ hu

/-- What node i is in itself. -/
def okN (tB : ByteArray → Bool) (sB : St → Bool) (n : Nd) : Bool := if zeroS n.st then decide (n.tx.size ≠ 0) && tB n.tx else decide (n.tx.size = 0) && sB n.st
/-- Whether node i stands as it may. -/
def okUp (ns : List Nd) (i : Nat) : Bool :=
  if i = 0 then decide (upL ns 0 = -1) && !isT ns 0 else decide (upL ns i ∈ aroundL ns i) && decide (idxL (upL ns i) (aroundL ns i) + 1 < 8)
def okAt (tB : ByteArray → Bool) (sB : St → Bool) (ns : List Nd) (i : Nat) : Bool := okUp ns i && okN tB sB (ns.getD i nd0)
def treeB (tB : ByteArray → Bool) (sB : St → Bool) (ns : List Nd) : Bool := decide (1 ≤ ns.length) && decide (ns.length ≤ 40) && (List.range ns.length).all (okAt tB sB ns)
theorem treeB_no {tB : ByteArray → Bool} {sB : St → Bool} {ns : List Nd} {k : Nat} (h : k < ns.length) (hk : okAt tB sB ns k = false) : treeB tB sB ns = false := by
  have : (List.range ns.length).all (okAt tB sB ns) = false := by
    rw [List.all_eq_false]
    exact ⟨k, List.mem_range.2 h, by simp [hk]⟩
  rw [treeB, this, Bool.and_false]
theorem treeB_yes {tB : ByteArray → Bool} {sB : St → Bool} {ns : List Nd} (h1 : 1 ≤ ns.length) (h2 : ns.length ≤ 40) (h : ∀ j, j < ns.length → okAt tB sB ns j = true) : treeB tB sB ns = true := by
  rw [treeB, List.all_eq_true.2 fun j hj => h j (List.mem_range.1 hj)]
  simp [h1, h2]
theorem treeB_len {tB : ByteArray → Bool} {sB : St → Bool} {ns : List Nd} (h : ¬ (1 ≤ ns.length ∧ ns.length ≤ 40)) : treeB tB sB ns = false := by
  rw [treeB]
  by_cases h1 : 1 ≤ ns.length
  · have : ¬ ns.length ≤ 40 := fun h2 => h ⟨h1, h2⟩
    simp [this]
  · simp [h1]
/-- Nodes up to i that pass stand. -/
theorem stands_of {ns : List Nd} : ∀ (i : Nat), (∀ j, j < i → okUp ns j = true) → ∀ j, j < i → Stands ns j := by
  intro i
  induction i with
  | zero => intro _ j hj; omega
  | succ i ih =>
    intro hok
    have hs := ih fun j hj => hok j (by omega)
    intro j hj
    by_cases hji : j < i
    · exact hs j hji
    · have : j = i := by omega
      subst this
      have h := hok j (by omega)
      by_cases h0 : j = 0
      · subst h0
        rw [okUp, if_pos rfl, Bool.and_eq_true] at h
        exact ⟨fun _ => of_decide_eq_true h.1, fun hh => by omega, fun hh => by omega⟩
      · rw [okUp, if_neg h0, Bool.and_eq_true] at h
        have hT0 : isT ns 0 = false := by
          have := hok 0 (by omega)
          rw [okUp, if_pos rfl, Bool.and_eq_true] at this
          simpa using this.2
        have hin := of_decide_eq_true h.1
        have hdp := of_decide_eq_true h.2
        obtain ⟨u, hu, e, hc, ht⟩ := (around_in (by omega) hT0 hs _).1 hin
        refine ⟨fun hh => absurd hh h0, fun _ => ⟨u, hu, e, hc, ht⟩, fun _ => ?_⟩
        rw [e] at hin hdp ⊢
        have := congrArg List.length (around_take u hin)
        rw [List.length_take] at this
        rw [show ((u : Int)).toNat = u by simp, ← this]
        omega
end Go.Proofs.YtddnphgpdnedbaaGreatDoor

namespace Go.Proofs.YtddnphgpdnedbaaGreatDoor
open Go.ChangeShapes Go.WideShapes Go.ChangeAt Go.RowKit
set_option linter.unusedVariables false

/-- A slice value at address a reads as the nodes ns. -/
def NdRow (w : World) (a : Option Addr) (ns : List Nd) : Prop :=
  ns = [] ∨ ∃ b off, a = some ⟨b, off, none⟩ ∧ ∀ i n, ns[i]? = some n → w.rangeAt b (off + i * 28) (ndL n)
theorem range_lt {w : World} {b o : Nat} {n : Nd} (h : w.rangeAt b o (ndL n)) : b < w.heap.size := World.block_lt_of_cell? _ _ (h 0 (.int .i64 n.up) rfl)
theorem range_below {B : Nat} {w w' : World} {b o : Nat} {n : Nd} (h : w.rangeAt b o (ndL n)) (hb : Below B w w') (hB : b < B) : w'.rangeAt b o (ndL n) :=
  fun j v hv => (hb.cell (p := ⟨b, o + j, none⟩) hB).trans (h j v hv)
theorem NdRow.below {w w' : World} {a : Option Addr} {ns : List Nd} (h : NdRow w a ns) (hb : Below w.heap.size w w') : NdRow w' a ns := by
  rcases h with h | ⟨b, off, rfl, hc⟩
  · exact .inl h
  · exact .inr ⟨b, off, rfl, fun i n hn => range_below (hc i n hn) hb (range_lt (hc i n hn))⟩
theorem below_setCells {B : Nat} {a : World} : ∀ (vs : List Value) (b o : Nat) (w : World), Below B a w → B ≤ b → Below B a (w.setCells b o vs)
  | [], _, _, _, h, _ => h
  | v :: vs, b, o, w, h, hb => by
    rw [World.setCells]
    exact below_setCells vs b (o + 1) _ (h.setCell (p := ⟨b, o, none⟩) hb v) hb
/-- Nodes in memory that a call has made: it may write there. -/
structure NdOwn (w : World) (g : Nat) (n : Nat) (ns : List Nd) (k : Nat) : Prop where
  there : w.there g 0 (n * 28)
  rows : ∀ i x, i < k → ns[i]? = some x → w.rangeAt g (i * 28) (ndL x)
theorem NdOwn.row {w : World} {g n : Nat} {ns : List Nd} (h : NdOwn w g n ns ns.length) : NdRow w (some ⟨g, 0, none⟩) ns :=
  .inr ⟨g, 0, rfl, fun i x hx => by rw [Nat.zero_add]; exact h.rows i x (List.getElem?_eq_some_iff.1 hx).1 hx⟩
theorem there_below {B : Nat} {w w' : World} {g o n : Nat} (h : w.there g o n) (hb : Below B w w') (hB : g < B) : w'.there g o n := fun j hj =>
  ⟨by rw [hb.cell (p := ⟨g, o + j, none⟩) hB]; exact (h j hj).1, by rw [hb.frozen (p := ⟨g, o + j, none⟩) hB]; exact (h j hj).2⟩
theorem NdOwn.below {B : Nat} {w w' : World} {g n k : Nat} {ns : List Nd} (h : NdOwn w g n ns k) (hb : Below B w w') (hB : g < B) : NdOwn w' g n ns k :=
  ⟨there_below h.there hb hB, fun i x hi hx => range_below (h.rows i x hi hx) hb hB⟩
theorem there_at {w : World} {g n k : Nat} (h : w.there g 0 (n * 28)) (hk : k < n) : w.there g (k * 28) 28 := fun j hj => by
  have := h (k * 28 + j) (by omega)
  rwa [Nat.zero_add] at this
theorem NdOwn.put {w : World} {g n k : Nat} {ns : List Nd} {x : Nd} (h : NdOwn w g n ns k) (hk : k < n) (hx : ns[k]? = some x) : NdOwn (w.setCells g (k * 28) (ndL x)) g n ns (k + 1) := by
  refine ⟨World.there_setCells h.there _ _ _, fun i y hi hy => ?_⟩
  by_cases e : i = k
  · subst e
    obtain rfl : x = y := Option.some.inj (hx.symm.trans hy)
    exact World.rangeAt_setCells_same _ _ _ _ (there_at h.there hk)
  · exact World.rangeAt_setCells_apart (h.rows i y (by omega) hy) _ _ _ (by right; left; rw [ndL_len]; omega)
theorem there_own {w : World} {base e size g n cap : Nat} {xs : List Value} (h : w.ownsRow base e size (.slice (some ⟨g, 0, none⟩) n cap) n xs) : w.there g 0 (n * size) := by
  rcases h.2 with ⟨h', _⟩ | ⟨g', cap', cur, h', _, hg, hn, _, hsz, _⟩
  · simp at h'
  · simp only [Value.slice.injEq, Option.some.injEq, Addr.mk.injEq, and_true, true_and] at h'
    obtain ⟨rfl, rfl⟩ := h'
    intro j hj
    have hl : j < cur.size := by rw [hsz]; exact Nat.lt_of_lt_of_le hj (Nat.mul_le_mul_right _ hn)
    refine ⟨by rw [cell_of_row w g (0 + j) cur e _ hg, Nat.zero_add, Array.getElem?_eq_getElem hl]; rfl, ?_⟩
    exact h.frozenAt (0 + j)
end Go.Proofs.YtddnphgpdnedbaaGreatDoor

namespace Go.Proofs.YtddnphgpdnedbaaGreatDoor
open Go.ChangeShapes Go.WideShapes Go.ChangeAt Go.RowKit
set_option linter.unusedVariables false

theorem infoNode : (Tryz.prog.info? 36).map (fun i => (i.zero, i.size, i.bytes)) = some (some (.agg #[.int .i64 0, .string ByteArray.empty, .int .i64 0, .int .i64 0, .int .i64 0, .bool false, .bool false, .int .i64 0, .bool false, .bool false, .int .i64 0, .int .i64 0, .int .i64 0, .int .i64 0, .bool false, .bool false, .int .i64 0, .int .i64 0, .bool false, .bool false, .int .i64 0, .int .i64 0, .int .i64 0, .int .i64 0, .int .i64 0, .int .i64 0, .int .i64 0, .int .i64 0]), 28, 200) := by kernel_rfl

end Go.Proofs.YtddnphgpdnedbaaGreatDoor

namespace Go.Proofs.YtddnphgpdnedbaaGreatDoor
open Go.ChangeShapes Go.WideShapes Go.ChangeAt Go.RowKit
set_option linter.unusedVariables false

theorem wp_gen2 {P : Program} {c : Code} {Q : Exit → Act → World → Prop} {a : Act} {w : World} {A B : Obj}
    (h : ∀ W, Below w.heap.size w W → W.heap[w.heap.size]? = some A → W.heap[w.heap.size + 1]? = some B → c.wp P Q a W) : c.wp P Q a ((w.alloc A).alloc B) :=
  h _ (((Below.refl _ _).alloc (Nat.le_refl _) _).alloc (by simp) _) (heap_in (heap_at _ _ _ rfl)) (heap_at _ _ _ (by simp))
theorem wp_gen1 {P : Program} {c : Code} {Q : Exit → Act → World → Prop} {a : Act} {w : World} {A : Obj}
    (h : ∀ W, Below w.heap.size w W → W.heap[w.heap.size]? = some A → W.heap.size = w.heap.size + 1 → c.wp P Q a W) : c.wp P Q a (w.alloc A) :=
  h _ ((Below.refl _ _).alloc (Nat.le_refl _) _) (heap_at _ _ _ rfl) (by simp)
set_option maxRecDepth 100000 in
set_option maxHeartbeats 4000000 in
theorem eqNode_same (n : Nd) (w : World) :
    Calls Tryz.prog 14 #[.agg #[.int .i64 n.up, .string n.tx, .int .i64 n.st.sh, .int .i64 n.st.fl, .int .i64 n.st.cl, .bool n.st.w.a, .bool n.st.w.p, .int .i64 n.st.w.n, .bool n.st.h.a, .bool n.st.h.p, .int .i64 n.st.h.n, .int .i64 n.st.mn, .int .i64 n.st.mx, .int .i64 n.st.mt, .bool n.st.mr.a, .bool n.st.mr.p, .int .i64 n.st.mr.n, .int .i64 n.st.mb, .bool n.st.ml.a, .bool n.st.ml.p, .int .i64 n.st.ml.n, .int .i64 n.st.bo, .int .i64 n.st.pa, .int .i64 n.st.wh, .int .i64 n.st.al, .int .i64 n.st.lh, .int .i64 n.st.ri, .int .i64 n.st.dn], .agg #[.int .i64 n.up, .string n.tx, .int .i64 n.st.sh, .int .i64 n.st.fl, .int .i64 n.st.cl, .bool n.st.w.a, .bool n.st.w.p, .int .i64 n.st.w.n, .bool n.st.h.a, .bool n.st.h.p, .int .i64 n.st.h.n, .int .i64 n.st.mn, .int .i64 n.st.mx, .int .i64 n.st.mt, .bool n.st.mr.a, .bool n.st.mr.p, .int .i64 n.st.mr.n, .int .i64 n.st.mb, .bool n.st.ml.a, .bool n.st.ml.p, .int .i64 n.st.ml.n, .int .i64 n.st.bo, .int .i64 n.st.pa, .int .i64 n.st.wh, .int .i64 n.st.al, .int .i64 n.st.lh, .int .i64 n.st.ri, .int .i64 n.st.dn]] w fun e w' => e = .returned (.bool true) ∧ Below w.heap.size w w' := by
  go_enter Tryz.func14, Tryz.ntmps14
  iterate 15 go_step
  refine wp_gen2 ?_
  intro W bel l0 l1
  have R0 : Hid (W.rangeAt w.heap.size 2 (#[.int .i64 n.st.sh, .int .i64 n.st.fl, .int .i64 n.st.cl, .bool n.st.w.a, .bool n.st.w.p, .int .i64 n.st.w.n, .bool n.st.h.a, .bool n.st.h.p, .int .i64 n.st.h.n, .int .i64 n.st.mn, .int .i64 n.st.mx, .int .i64 n.st.mt, .bool n.st.mr.a, .bool n.st.mr.p, .int .i64 n.st.mr.n, .int .i64 n.st.mb, .bool n.st.ml.a, .bool n.st.ml.p, .int .i64 n.st.ml.n, .int .i64 n.st.bo, .int .i64 n.st.pa, .int .i64 n.st.wh, .int .i64 n.st.al, .int .i64 n.st.lh, .int .i64 n.st.ri, .int .i64 n.st.dn] : Array Value).toList) := fun j v hj => (lies_cell l0 (2 + j)).trans (by rw [← hj, show (#[.int .i64 n.st.sh, .int .i64 n.st.fl, .int .i64 n.st.cl, .bool n.st.w.a, .bool n.st.w.p, .int .i64 n.st.w.n, .bool n.st.h.a, .bool n.st.h.p, .int .i64 n.st.h.n, .int .i64 n.st.mn, .int .i64 n.st.mx, .int .i64 n.st.mt, .bool n.st.mr.a, .bool n.st.mr.p, .int .i64 n.st.mr.n, .int .i64 n.st.mb, .bool n.st.ml.a, .bool n.st.ml.p, .int .i64 n.st.ml.n, .int .i64 n.st.bo, .int .i64 n.st.pa, .int .i64 n.st.wh, .int .i64 n.st.al, .int .i64 n.st.lh, .int .i64 n.st.ri, .int .i64 n.st.dn] : Array Value).toList = (#[.int .i64 n.up, .string n.tx, .int .i64 n.st.sh, .int .i64 n.st.fl, .int .i64 n.st.cl, .bool n.st.w.a, .bool n.st.w.p, .int .i64 n.st.w.n, .bool n.st.h.a, .bool n.st.h.p, .int .i64 n.st.h.n, .int .i64 n.st.mn, .int .i64 n.st.mx, .int .i64 n.st.mt, .bool n.st.mr.a, .bool n.st.mr.p, .int .i64 n.st.mr.n, .int .i64 n.st.mb, .bool n.st.ml.a, .bool n.st.ml.p, .int .i64 n.st.ml.n, .int .i64 n.st.bo, .int .i64 n.st.pa, .int .i64 n.st.wh, .int .i64 n.st.al, .int .i64 n.st.lh, .int .i64 n.st.ri, .int .i64 n.st.dn] : Array Value).toList.drop 2 from rfl, List.getElem?_drop]; simp)
  have R1 : Hid (W.rangeAt (w.heap.size + 1) 2 (#[.int .i64 n.st.sh, .int .i64 n.st.fl, .int .i64 n.st.cl, .bool n.st.w.a, .bool n.st.w.p, .int .i64 n.st.w.n, .bool n.st.h.a, .bool n.st.h.p, .int .i64 n.st.h.n, .int .i64 n.st.mn, .int .i64 n.st.mx, .int .i64 n.st.mt, .bool n.st.mr.a, .bool n.st.mr.p, .int .i64 n.st.mr.n, .int .i64 n.st.mb, .bool n.st.ml.a, .bool n.st.ml.p, .int .i64 n.st.ml.n, .int .i64 n.st.bo, .int .i64 n.st.pa, .int .i64 n.st.wh, .int .i64 n.st.al, .int .i64 n.st.lh, .int .i64 n.st.ri, .int .i64 n.st.dn] : Array Value).toList) := fun j v hj => (lies_cell l1 (2 + j)).trans (by rw [← hj, show (#[.int .i64 n.st.sh, .int .i64 n.st.fl, .int .i64 n.st.cl, .bool n.st.w.a, .bool n.st.w.p, .int .i64 n.st.w.n, .bool n.st.h.a, .bool n.st.h.p, .int .i64 n.st.h.n, .int .i64 n.st.mn, .int .i64 n.st.mx, .int .i64 n.st.mt, .bool n.st.mr.a, .bool n.st.mr.p, .int .i64 n.st.mr.n, .int .i64 n.st.mb, .bool n.st.ml.a, .bool n.st.ml.p, .int .i64 n.st.ml.n, .int .i64 n.st.bo, .int .i64 n.st.pa, .int .i64 n.st.wh, .int .i64 n.st.al, .int .i64 n.st.lh, .int .i64 n.st.ri, .int .i64 n.st.dn] : Array Value).toList = (#[.int .i64 n.up, .string n.tx, .int .i64 n.st.sh, .int .i64 n.st.fl, .int .i64 n.st.cl, .bool n.st.w.a, .bool n.st.w.p, .int .i64 n.st.w.n, .bool n.st.h.a, .bool n.st.h.p, .int .i64 n.st.h.n, .int .i64 n.st.mn, .int .i64 n.st.mx, .int .i64 n.st.mt, .bool n.st.mr.a, .bool n.st.mr.p, .int .i64 n.st.mr.n, .int .i64 n.st.mb, .bool n.st.ml.a, .bool n.st.ml.p, .int .i64 n.st.ml.n, .int .i64 n.st.bo, .int .i64 n.st.pa, .int .i64 n.st.wh, .int .i64 n.st.al, .int .i64 n.st.lh, .int .i64 n.st.ri, .int .i64 n.st.dn] : Array Value).toList.drop 2 from rfl, List.getElem?_drop]; simp)
  have hc0 := lies_cell l0
  have hc1 := lies_cell l1
  have lt1 := lies_lt l1
  clear l0 l1
  go_wp2_with (first
    | (with_reducible show wpList _ _ _ (⟨some 16, Op.load 34 _, _, _, _, _⟩ :: _) _ _; refine wpList_load_mid rfl 34 _ rfl w.heap.size 2 rfl (#[.int .i64 n.st.sh, .int .i64 n.st.fl, .int .i64 n.st.cl, .bool n.st.w.a, .bool n.st.w.p, .int .i64 n.st.w.n, .bool n.st.h.a, .bool n.st.h.p, .int .i64 n.st.h.n, .int .i64 n.st.mn, .int .i64 n.st.mx, .int .i64 n.st.mt, .bool n.st.mr.a, .bool n.st.mr.p, .int .i64 n.st.mr.n, .int .i64 n.st.mb, .bool n.st.ml.a, .bool n.st.ml.p, .int .i64 n.st.ml.n, .int .i64 n.st.bo, .int .i64 n.st.pa, .int .i64 n.st.wh, .int .i64 n.st.al, .int .i64 n.st.lh, .int .i64 n.st.ri, .int .i64 n.st.dn] : Array Value).toList _ R0.out Tryz.underlying34 rfl (by kernel_rfl) ?_)
    | (with_reducible show wpList _ _ _ (⟨some 18, Op.load 34 _, _, _, _, _⟩ :: _) _ _; refine wpList_load_mid rfl 34 _ rfl (w.heap.size + 1) 2 rfl (#[.int .i64 n.st.sh, .int .i64 n.st.fl, .int .i64 n.st.cl, .bool n.st.w.a, .bool n.st.w.p, .int .i64 n.st.w.n, .bool n.st.h.a, .bool n.st.h.p, .int .i64 n.st.h.n, .int .i64 n.st.mn, .int .i64 n.st.mx, .int .i64 n.st.mt, .bool n.st.mr.a, .bool n.st.mr.p, .int .i64 n.st.mr.n, .int .i64 n.st.mb, .bool n.st.ml.a, .bool n.st.ml.p, .int .i64 n.st.ml.n, .int .i64 n.st.bo, .int .i64 n.st.pa, .int .i64 n.st.wh, .int .i64 n.st.al, .int .i64 n.st.lh, .int .i64 n.st.ri, .int .i64 n.st.dn] : Array Value).toList _ R1.out Tryz.underlying34 rfl (by kernel_rfl) ?_)
    | (go_at_call 35; refine (eqStyle_same n.st _).mono ?_; rintro e w2 ⟨rfl, hb⟩))
  go_ret
  exact ⟨rfl, bel.trans (hb.mono (by omega))⟩
end Go.Proofs.YtddnphgpdnedbaaGreatDoor

namespace Go.Proofs.YtddnphgpdnedbaaGreatDoor
open Go.ChangeShapes Go.WideShapes Go.ChangeAt Go.RowKit
set_option linter.unusedVariables false
set_option linter.unusedSimpArgs false

theorem eqSt_held : Tryz.prog.stoodInHeld 34 = false := by kernel_rfl
theorem eqSt_guard : Tryz.prog.eqGuardType Tryz.prog.depth 34 = false := by kernel_rfl
theorem eqSt_fields : Tryz.prog.underlying 34 = some (.struct (Tryz.prog.fieldsOf 34)) := by kernel_rfl
theorem eqSzz_held : Tryz.prog.stoodInHeld 32 = false := by kernel_rfl
theorem eqSzz_fields : Tryz.prog.underlying 32 = some (.struct (Tryz.prog.fieldsOf 32)) := by kernel_rfl
theorem eqSzF (d : Nat) (a p : Bool) (n : Int) (w : World) :
    (Op.equalIn (d + 1 + 1) 32 (.agg #[.bool a, .bool p, .int .i64 n]) (.agg #[.bool false, .bool false, .int .i64 0])).run Tryz.prog w = .ok (szZ a p n) w := by
  rw [run_equalIn_agg _ _ _ _ _ eqSzz_fields eqSzz_held]
  simp only [Program.fieldsOf, Tryz.underlying32]
  cases a <;> cases p <;> by_cases h3 : n = 0 <;> simp [Op.eqFields, go_sem, Tryz.underlying3, Tryz.underlying4, h3, szZ]
theorem eqF_step {P : Program} {w : World} {d : Nat} {xs ys : Array Value} {f : Field} {fs : List Field} {a b : Value} {r : Bool} (hn : (f.name == "_") = false)
    (h1 : (part f.type xs f.offset).run P w = .ok a w) (h2 : (part f.type ys f.offset).run P w = .ok b w) (h3 : (Op.equalIn d f.type a b).run P w = .ok r w) :
    (Op.eqFields d xs ys (f :: fs)).run P w = if r = true then (Op.eqFields d xs ys fs).run P w else .ok false w := by
  have hn' : f.name ≠ "_" := by simpa using hn
  cases r <;> simp [Op.eqFields, hn', h1, h2, h3]

set_option maxRecDepth 100000 in
set_option maxHeartbeats 4000000 in
theorem eqSt_run (s : St) (w : World) :
    (binOp .eql 34 (.agg #[.int .i64 s.sh, .int .i64 s.fl, .int .i64 s.cl, .bool s.w.a, .bool s.w.p, .int .i64 s.w.n, .bool s.h.a, .bool s.h.p, .int .i64 s.h.n, .int .i64 s.mn, .int .i64 s.mx, .int .i64 s.mt, .bool s.mr.a, .bool s.mr.p, .int .i64 s.mr.n, .int .i64 s.mb, .bool s.ml.a, .bool s.ml.p, .int .i64 s.ml.n, .int .i64 s.bo, .int .i64 s.pa, .int .i64 s.wh, .int .i64 s.al, .int .i64 s.lh, .int .i64 s.ri, .int .i64 s.dn]) (.agg #[.int .i64 0, .int .i64 0, .int .i64 0, .bool false, .bool false, .int .i64 0, .bool false, .bool false, .int .i64 0, .int .i64 0, .int .i64 0, .int .i64 0, .bool false, .bool false, .int .i64 0, .int .i64 0, .bool false, .bool false, .int .i64 0, .int .i64 0, .int .i64 0, .int .i64 0, .int .i64 0, .int .i64 0, .int .i64 0, .int .i64 0])).run Tryz.prog w = .ok (.bool (zeroS s)) w := by
  rw [run_eql_struct, run_equalIn_agg _ _ _ _ _ eqSt_fields eqSt_held]
  simp only [Program.fieldsOf, Tryz.underlying34]
  by_cases h_sh : s.sh = 0
  rotate_left
  · simp [Op.eqFields, go_sem, Tryz.underlying3, Tryz.underlying4, eqSzF, zeroS, h_sh]
  by_cases h_fl : s.fl = 0
  rotate_left
  · simp [Op.eqFields, go_sem, Tryz.underlying3, Tryz.underlying4, eqSzF, zeroS, h_sh, h_fl]
  by_cases h_cl : s.cl = 0
  rotate_left
  · simp [Op.eqFields, go_sem, Tryz.underlying3, Tryz.underlying4, eqSzF, zeroS, h_sh, h_fl, h_cl]
  by_cases h_w : szZ s.w.a s.w.p s.w.n = true
  rotate_left
  · simp [Op.eqFields, go_sem, Tryz.underlying3, Tryz.underlying4, eqSzF, zeroS, h_sh, h_fl, h_cl, h_w]
  by_cases h_h : szZ s.h.a s.h.p s.h.n = true
  rotate_left
  · simp [Op.eqFields, go_sem, Tryz.underlying3, Tryz.underlying4, eqSzF, zeroS, h_sh, h_fl, h_cl, h_w, h_h]
  by_cases h_mn : s.mn = 0
  rotate_left
  · simp [Op.eqFields, go_sem, Tryz.underlying3, Tryz.underlying4, eqSzF, zeroS, h_sh, h_fl, h_cl, h_w, h_h, h_mn]
  by_cases h_mx : s.mx = 0
  rotate_left
  · simp [Op.eqFields, go_sem, Tryz.underlying3, Tryz.underlying4, eqSzF, zeroS, h_sh, h_fl, h_cl, h_w, h_h, h_mn, h_mx]
  by_cases h_mt : s.mt = 0
  rotate_left
  · simp [Op.eqFields, go_sem, Tryz.underlying3, Tryz.underlying4, eqSzF, zeroS, h_sh, h_fl, h_cl, h_w, h_h, h_mn, h_mx, h_mt]
  by_cases h_mr : szZ s.mr.a s.mr.p s.mr.n = true
  rotate_left
  · simp [Op.eqFields, go_sem, Tryz.underlying3, Tryz.underlying4, eqSzF, zeroS, h_sh, h_fl, h_cl, h_w, h_h, h_mn, h_mx, h_mt, h_mr]
  by_cases h_mb : s.mb = 0
  rotate_left
  · simp [Op.eqFields, go_sem, Tryz.underlying3, Tryz.underlying4, eqSzF, zeroS, h_sh, h_fl, h_cl, h_w, h_h, h_mn, h_mx, h_mt, h_mr, h_mb]
  by_cases h_ml : szZ s.ml.a s.ml.p s.ml.n = true
  rotate_left
  · simp [Op.eqFields, go_sem, Tryz.underlying3, Tryz.underlying4, eqSzF, zeroS, h_sh, h_fl, h_cl, h_w, h_h, h_mn, h_mx, h_mt, h_mr, h_mb, h_ml]
  by_cases h_bo : s.bo = 0
  rotate_left
  · simp [Op.eqFields, go_sem, Tryz.underlying3, Tryz.underlying4, eqSzF, zeroS, h_sh, h_fl, h_cl, h_w, h_h, h_mn, h_mx, h_mt, h_mr, h_mb, h_ml, h_bo]
  by_cases h_pa : s.pa = 0
  rotate_left
  · simp [Op.eqFields, go_sem, Tryz.underlying3, Tryz.underlying4, eqSzF, zeroS, h_sh, h_fl, h_cl, h_w, h_h, h_mn, h_mx, h_mt, h_mr, h_mb, h_ml, h_bo, h_pa]
  by_cases h_wh : s.wh = 0
  rotate_left
  · simp [Op.eqFields, go_sem, Tryz.underlying3, Tryz.underlying4, eqSzF, zeroS, h_sh, h_fl, h_cl, h_w, h_h, h_mn, h_mx, h_mt, h_mr, h_mb, h_ml, h_bo, h_pa, h_wh]
  by_cases h_al : s.al = 0
  rotate_left
  · simp [Op.eqFields, go_sem, Tryz.underlying3, Tryz.underlying4, eqSzF, zeroS, h_sh, h_fl, h_cl, h_w, h_h, h_mn, h_mx, h_mt, h_mr, h_mb, h_ml, h_bo, h_pa, h_wh, h_al]
  by_cases h_lh : s.lh = 0
  rotate_left
  · simp [Op.eqFields, go_sem, Tryz.underlying3, Tryz.underlying4, eqSzF, zeroS, h_sh, h_fl, h_cl, h_w, h_h, h_mn, h_mx, h_mt, h_mr, h_mb, h_ml, h_bo, h_pa, h_wh, h_al, h_lh]
  by_cases h_ri : s.ri = 0
  rotate_left
  · simp [Op.eqFields, go_sem, Tryz.underlying3, Tryz.underlying4, eqSzF, zeroS, h_sh, h_fl, h_cl, h_w, h_h, h_mn, h_mx, h_mt, h_mr, h_mb, h_ml, h_bo, h_pa, h_wh, h_al, h_lh, h_ri]
  by_cases h_dn : s.dn = 0
  rotate_left
  · simp [Op.eqFields, go_sem, Tryz.underlying3, Tryz.underlying4, eqSzF, zeroS, h_sh, h_fl, h_cl, h_w, h_h, h_mn, h_mx, h_mt, h_mr, h_mb, h_ml, h_bo, h_pa, h_wh, h_al, h_lh, h_ri, h_dn]
  simp [Op.eqFields, go_sem, Tryz.underlying3, Tryz.underlying4, eqSzF, zeroS, h_sh, h_fl, h_cl, h_w, h_h, h_mn, h_mx, h_mt, h_mr, h_mb, h_ml, h_bo, h_pa, h_wh, h_al, h_lh, h_ri, h_dn]

set_option maxRecDepth 100000 in
set_option maxHeartbeats 4000000 in
theorem specIsText_any (n : Nd) (w : World) : Calls Tryz.prog 22 #[.agg #[.int .i64 n.up, .string n.tx, .int .i64 n.st.sh, .int .i64 n.st.fl, .int .i64 n.st.cl, .bool n.st.w.a, .bool n.st.w.p, .int .i64 n.st.w.n, .bool n.st.h.a, .bool n.st.h.p, .int .i64 n.st.h.n, .int .i64 n.st.mn, .int .i64 n.st.mx, .int .i64 n.st.mt, .bool n.st.mr.a, .bool n.st.mr.p, .int .i64 n.st.mr.n, .int .i64 n.st.mb, .bool n.st.ml.a, .bool n.st.ml.p, .int .i64 n.st.ml.n, .int .i64 n.st.bo, .int .i64 n.st.pa, .int .i64 n.st.wh, .int .i64 n.st.al, .int .i64 n.st.lh, .int .i64 n.st.ri, .int .i64 n.st.dn]] w fun e w' => e = .returned (.bool (zeroS n.st)) ∧ Below w.heap.size w w' := by
  have EQ := eqSt_run n.st
  have GD := fun (w : World) (x y : Operand) => run_eqGuard_agg (P := Tryz.prog) w .eql 34 x y (#[.int .i64 n.st.sh, .int .i64 n.st.fl, .int .i64 n.st.cl, .bool n.st.w.a, .bool n.st.w.p, .int .i64 n.st.w.n, .bool n.st.h.a, .bool n.st.h.p, .int .i64 n.st.h.n, .int .i64 n.st.mn, .int .i64 n.st.mx, .int .i64 n.st.mt, .bool n.st.mr.a, .bool n.st.mr.p, .int .i64 n.st.mr.n, .int .i64 n.st.mb, .bool n.st.ml.a, .bool n.st.ml.p, .int .i64 n.st.ml.n, .int .i64 n.st.bo, .int .i64 n.st.pa, .int .i64 n.st.wh, .int .i64 n.st.al, .int .i64 n.st.lh, .int .i64 n.st.ri, .int .i64 n.st.dn]) (#[.int .i64 0, .int .i64 0, .int .i64 0, .bool false, .bool false, .int .i64 0, .bool false, .bool false, .int .i64 0, .int .i64 0, .int .i64 0, .int .i64 0, .bool false, .bool false, .int .i64 0, .int .i64 0, .bool false, .bool false, .int .i64 0, .int .i64 0, .int .i64 0, .int .i64 0, .int .i64 0, .int .i64 0, .int .i64 0, .int .i64 0]) eqSt_guard
  generalize zeroS n.st = r at EQ ⊢
  go_enter Tryz.func22, Tryz.ntmps22
  iterate 12 go_step
  refine wp_gen1 ?_
  intro W bel l0 hz
  have R0 : W.rangeAt w.heap.size 2 (#[.int .i64 n.st.sh, .int .i64 n.st.fl, .int .i64 n.st.cl, .bool n.st.w.a, .bool n.st.w.p, .int .i64 n.st.w.n, .bool n.st.h.a, .bool n.st.h.p, .int .i64 n.st.h.n, .int .i64 n.st.mn, .int .i64 n.st.mx, .int .i64 n.st.mt, .bool n.st.mr.a, .bool n.st.mr.p, .int .i64 n.st.mr.n, .int .i64 n.st.mb, .bool n.st.ml.a, .bool n.st.ml.p, .int .i64 n.st.ml.n, .int .i64 n.st.bo, .int .i64 n.st.pa, .int .i64 n.st.wh, .int .i64 n.st.al, .int .i64 n.st.lh, .int .i64 n.st.ri, .int .i64 n.st.dn] : Array Value).toList := fun j v hj => (lies_cell l0 (2 + j)).trans (by rw [← hj, show (#[.int .i64 n.st.sh, .int .i64 n.st.fl, .int .i64 n.st.cl, .bool n.st.w.a, .bool n.st.w.p, .int .i64 n.st.w.n, .bool n.st.h.a, .bool n.st.h.p, .int .i64 n.st.h.n, .int .i64 n.st.mn, .int .i64 n.st.mx, .int .i64 n.st.mt, .bool n.st.mr.a, .bool n.st.mr.p, .int .i64 n.st.mr.n, .int .i64 n.st.mb, .bool n.st.ml.a, .bool n.st.ml.p, .int .i64 n.st.ml.n, .int .i64 n.st.bo, .int .i64 n.st.pa, .int .i64 n.st.wh, .int .i64 n.st.al, .int .i64 n.st.lh, .int .i64 n.st.ri, .int .i64 n.st.dn] : Array Value).toList = (#[.int .i64 n.up, .string n.tx, .int .i64 n.st.sh, .int .i64 n.st.fl, .int .i64 n.st.cl, .bool n.st.w.a, .bool n.st.w.p, .int .i64 n.st.w.n, .bool n.st.h.a, .bool n.st.h.p, .int .i64 n.st.h.n, .int .i64 n.st.mn, .int .i64 n.st.mx, .int .i64 n.st.mt, .bool n.st.mr.a, .bool n.st.mr.p, .int .i64 n.st.mr.n, .int .i64 n.st.mb, .bool n.st.ml.a, .bool n.st.ml.p, .int .i64 n.st.ml.n, .int .i64 n.st.bo, .int .i64 n.st.pa, .int .i64 n.st.wh, .int .i64 n.st.al, .int .i64 n.st.lh, .int .i64 n.st.ri, .int .i64 n.st.dn] : Array Value).toList.drop 2 from rfl, List.getElem?_drop]; simp)
  clear l0
  go_wp2_with (first
    | (with_reducible show wpList _ _ _ (⟨some 4, Op.load 34 _, _, _, _, _⟩ :: _) _ _; refine wpList_load_mid rfl 34 _ rfl w.heap.size 2 rfl (#[.int .i64 n.st.sh, .int .i64 n.st.fl, .int .i64 n.st.cl, .bool n.st.w.a, .bool n.st.w.p, .int .i64 n.st.w.n, .bool n.st.h.a, .bool n.st.h.p, .int .i64 n.st.h.n, .int .i64 n.st.mn, .int .i64 n.st.mx, .int .i64 n.st.mt, .bool n.st.mr.a, .bool n.st.mr.p, .int .i64 n.st.mr.n, .int .i64 n.st.mb, .bool n.st.ml.a, .bool n.st.ml.p, .int .i64 n.st.ml.n, .int .i64 n.st.bo, .int .i64 n.st.pa, .int .i64 n.st.wh, .int .i64 n.st.al, .int .i64 n.st.lh, .int .i64 n.st.ri, .int .i64 n.st.dn] : Array Value).toList _ R0 Tryz.underlying34 rfl (by kernel_rfl) ?_)
    | (with_reducible show wpList _ _ _ (⟨some 5, Op.build 34 _, _, _, _, _⟩ :: _) _ _; refine wpList_buildTo rfl 34 _ rfl _ rfl (#[.int .i64 0, .int .i64 0, .int .i64 0, .bool false, .bool false, .int .i64 0, .bool false, .bool false, .int .i64 0, .int .i64 0, .int .i64 0, .int .i64 0, .bool false, .bool false, .int .i64 0, .int .i64 0, .bool false, .bool false, .int .i64 0, .int .i64 0, .int .i64 0, .int .i64 0, .int .i64 0, .int .i64 0, .int .i64 0, .int .i64 0]) (by kernel_rfl) ?_))
  go_ret
  exact ⟨rfl, bel⟩
set_option maxRecDepth 100000 in
set_option maxHeartbeats 4000000 in
theorem implIsText_any (n : Nd) (w : World) : Calls Tryz.prog 28 #[.agg #[.int .i64 n.up, .string n.tx, .int .i64 n.st.sh, .int .i64 n.st.fl, .int .i64 n.st.cl, .bool n.st.w.a, .bool n.st.w.p, .int .i64 n.st.w.n, .bool n.st.h.a, .bool n.st.h.p, .int .i64 n.st.h.n, .int .i64 n.st.mn, .int .i64 n.st.mx, .int .i64 n.st.mt, .bool n.st.mr.a, .bool n.st.mr.p, .int .i64 n.st.mr.n, .int .i64 n.st.mb, .bool n.st.ml.a, .bool n.st.ml.p, .int .i64 n.st.ml.n, .int .i64 n.st.bo, .int .i64 n.st.pa, .int .i64 n.st.wh, .int .i64 n.st.al, .int .i64 n.st.lh, .int .i64 n.st.ri, .int .i64 n.st.dn]] w fun e w' => e = .returned (.bool (zeroS n.st)) ∧ Below w.heap.size w w' := by
  have EQ := eqSt_run n.st
  have GD := fun (w : World) (x y : Operand) => run_eqGuard_agg (P := Tryz.prog) w .eql 34 x y (#[.int .i64 n.st.sh, .int .i64 n.st.fl, .int .i64 n.st.cl, .bool n.st.w.a, .bool n.st.w.p, .int .i64 n.st.w.n, .bool n.st.h.a, .bool n.st.h.p, .int .i64 n.st.h.n, .int .i64 n.st.mn, .int .i64 n.st.mx, .int .i64 n.st.mt, .bool n.st.mr.a, .bool n.st.mr.p, .int .i64 n.st.mr.n, .int .i64 n.st.mb, .bool n.st.ml.a, .bool n.st.ml.p, .int .i64 n.st.ml.n, .int .i64 n.st.bo, .int .i64 n.st.pa, .int .i64 n.st.wh, .int .i64 n.st.al, .int .i64 n.st.lh, .int .i64 n.st.ri, .int .i64 n.st.dn]) (#[.int .i64 0, .int .i64 0, .int .i64 0, .bool false, .bool false, .int .i64 0, .bool false, .bool false, .int .i64 0, .int .i64 0, .int .i64 0, .int .i64 0, .bool false, .bool false, .int .i64 0, .int .i64 0, .bool false, .bool false, .int .i64 0, .int .i64 0, .int .i64 0, .int .i64 0, .int .i64 0, .int .i64 0, .int .i64 0, .int .i64 0]) eqSt_guard
  generalize zeroS n.st = r at EQ ⊢
  go_enter Tryz.func28, Tryz.ntmps28
  iterate 12 go_step
  refine wp_gen1 ?_
  intro W bel l0 hz
  have R0 : W.rangeAt w.heap.size 2 (#[.int .i64 n.st.sh, .int .i64 n.st.fl, .int .i64 n.st.cl, .bool n.st.w.a, .bool n.st.w.p, .int .i64 n.st.w.n, .bool n.st.h.a, .bool n.st.h.p, .int .i64 n.st.h.n, .int .i64 n.st.mn, .int .i64 n.st.mx, .int .i64 n.st.mt, .bool n.st.mr.a, .bool n.st.mr.p, .int .i64 n.st.mr.n, .int .i64 n.st.mb, .bool n.st.ml.a, .bool n.st.ml.p, .int .i64 n.st.ml.n, .int .i64 n.st.bo, .int .i64 n.st.pa, .int .i64 n.st.wh, .int .i64 n.st.al, .int .i64 n.st.lh, .int .i64 n.st.ri, .int .i64 n.st.dn] : Array Value).toList := fun j v hj => (lies_cell l0 (2 + j)).trans (by rw [← hj, show (#[.int .i64 n.st.sh, .int .i64 n.st.fl, .int .i64 n.st.cl, .bool n.st.w.a, .bool n.st.w.p, .int .i64 n.st.w.n, .bool n.st.h.a, .bool n.st.h.p, .int .i64 n.st.h.n, .int .i64 n.st.mn, .int .i64 n.st.mx, .int .i64 n.st.mt, .bool n.st.mr.a, .bool n.st.mr.p, .int .i64 n.st.mr.n, .int .i64 n.st.mb, .bool n.st.ml.a, .bool n.st.ml.p, .int .i64 n.st.ml.n, .int .i64 n.st.bo, .int .i64 n.st.pa, .int .i64 n.st.wh, .int .i64 n.st.al, .int .i64 n.st.lh, .int .i64 n.st.ri, .int .i64 n.st.dn] : Array Value).toList = (#[.int .i64 n.up, .string n.tx, .int .i64 n.st.sh, .int .i64 n.st.fl, .int .i64 n.st.cl, .bool n.st.w.a, .bool n.st.w.p, .int .i64 n.st.w.n, .bool n.st.h.a, .bool n.st.h.p, .int .i64 n.st.h.n, .int .i64 n.st.mn, .int .i64 n.st.mx, .int .i64 n.st.mt, .bool n.st.mr.a, .bool n.st.mr.p, .int .i64 n.st.mr.n, .int .i64 n.st.mb, .bool n.st.ml.a, .bool n.st.ml.p, .int .i64 n.st.ml.n, .int .i64 n.st.bo, .int .i64 n.st.pa, .int .i64 n.st.wh, .int .i64 n.st.al, .int .i64 n.st.lh, .int .i64 n.st.ri, .int .i64 n.st.dn] : Array Value).toList.drop 2 from rfl, List.getElem?_drop]; simp)
  clear l0
  go_wp2_with (first
    | (with_reducible show wpList _ _ _ (⟨some 4, Op.load 34 _, _, _, _, _⟩ :: _) _ _; refine wpList_load_mid rfl 34 _ rfl w.heap.size 2 rfl (#[.int .i64 n.st.sh, .int .i64 n.st.fl, .int .i64 n.st.cl, .bool n.st.w.a, .bool n.st.w.p, .int .i64 n.st.w.n, .bool n.st.h.a, .bool n.st.h.p, .int .i64 n.st.h.n, .int .i64 n.st.mn, .int .i64 n.st.mx, .int .i64 n.st.mt, .bool n.st.mr.a, .bool n.st.mr.p, .int .i64 n.st.mr.n, .int .i64 n.st.mb, .bool n.st.ml.a, .bool n.st.ml.p, .int .i64 n.st.ml.n, .int .i64 n.st.bo, .int .i64 n.st.pa, .int .i64 n.st.wh, .int .i64 n.st.al, .int .i64 n.st.lh, .int .i64 n.st.ri, .int .i64 n.st.dn] : Array Value).toList _ R0 Tryz.underlying34 rfl (by kernel_rfl) ?_)
    | (with_reducible show wpList _ _ _ (⟨some 5, Op.build 34 _, _, _, _, _⟩ :: _) _ _; refine wpList_buildTo rfl 34 _ rfl _ rfl (#[.int .i64 0, .int .i64 0, .int .i64 0, .bool false, .bool false, .int .i64 0, .bool false, .bool false, .int .i64 0, .int .i64 0, .int .i64 0, .int .i64 0, .bool false, .bool false, .int .i64 0, .int .i64 0, .bool false, .bool false, .int .i64 0, .int .i64 0, .int .i64 0, .int .i64 0, .int .i64 0, .int .i64 0, .int .i64 0, .int .i64 0]) (by kernel_rfl) ?_))
  go_ret
  exact ⟨rfl, bel⟩
end Go.Proofs.YtddnphgpdnedbaaGreatDoor

namespace Go.Proofs.YtddnphgpdnedbaaGreatDoor
open Go.ChangeShapes Go.WideShapes Go.ChangeAt Go.RowKit
set_option linter.unusedVariables false

/-- What the size test says. -/
def szOkN (ns : List Nd) (z : Int) : Prop := z = -1 ∨ 0 ≤ z ∧ ns.length ≤ 1048576 ∧ ∀ (i : Nat) (x : Nd), ns[i]? = some x → x.tx.size ≤ 1048576
theorem szStep {ns : List Nd} {k : Nat} {x : Nd} (hx : ns[k]? = some x) (hl : x.tx.size ≤ 1048576) (hp : ∀ (j : Nat) (x : Nd), j < k → ns[j]? = some x → x.tx.size ≤ 1048576) (j : Nat) (y : Nd) (hj : j < k + 1) (hy : ns[j]? = some y) : y.tx.size ≤ 1048576 := by
  by_cases e : j = k
  · subst e
    obtain rfl := Option.some.inj (hx.symm.trans hy)
    exact hl
  · exact hp j y (by omega) hy
end Go.Proofs.YtddnphgpdnedbaaGreatDoor

namespace Go.Proofs.YtddnphgpdnedbaaGreatDoor
open Go.ChangeShapes Go.WideShapes Go.ChangeAt Go.RowKit
set_option linter.unusedVariables false

theorem load_node {w : World} {b o : Nat} {x : Nd} (h : w.rangeAt b o (ndL x)) : (Instr.loadAt 36 (.pointer (some ⟨b, o, none⟩))).run Tryz.prog w = .ok (.agg (ndL x).toArray) w :=
  run_loadAt_mid w b o 36 (ndL x) _ h Tryz.underlying36 rfl (by kernel_rfl)

set_option maxRecDepth 100000 in
set_option maxHeartbeats 4000000 in
theorem eqNodes_some (b off b' off' n cap cap' : Nat) (ns : List Nd) (w : World) (hn : ns.length = n) (hl : n ≤ 1048576)
    (hc : ∀ i x, ns[i]? = some x → w.rangeAt b (off + i * 28) (ndL x)) (hd : ∀ i x, ns[i]? = some x → w.rangeAt b' (off' + i * 28) (ndL x)) :
    Calls Tryz.prog 6 #[.slice (some ⟨b, off, none⟩) n cap, .slice (some ⟨b', off', none⟩) n cap'] w fun e w' => e = .returned (.bool true) ∧ Below w.heap.size w w' := by
  have HC : Hid (∀ i x, ns[i]? = some x → w.rangeAt b (off + i * 28) (ndL x)) := hc
  have HD : Hid (∀ i x, ns[i]? = some x → w.rangeAt b' (off' + i * 28) (ndL x)) := hd
  clear hc hd
  go_enter Tryz.func6, Tryz.ntmps6
  go_wp2
  go_loopw [5] (fun i wr => ∃ k : Nat, k ≤ n ∧ i = .int .i64 k ∧ Below w.heap.size w wr) (fun i _ => n - (intOf i).toNat)
  case atStart => exact ⟨0, Nat.zero_le _, rfl, Below.refl _ _⟩
  case round =>
    obtain ⟨k, hk, rfl, hbw⟩ := hrel
    by_cases hlt : k < n
    · obtain ⟨x, hx⟩ : ∃ x, ns[k]? = some x := ⟨_, List.getElem?_eq_getElem (by omega)⟩
      have hr := range_below (HC.out k x hx) hbw (range_lt (HC.out k x hx))
      have hs := range_below (HD.out k x hx) hbw (range_lt (HD.out k x hx))
      have lb := range_lt hr
      have lb' := range_lt hs
      have EQ := fun W => eqNode_same x W
      have hlt' : (k : Int) < (n : Int) := by omega
      clear HC HD
      go_wp2
      refine wp_region_held_drew (S := fun w' => w'.rangeAt b (off + k * 28) (ndL x) ∧ w'.rangeAt b' (off' + k * 28) (ndL x)) (by kernel_rfl) ⟨(World.rangeAt_drew _ _ _ _).2 hr, (World.rangeAt_drew _ _ _ _).2 hs⟩ (fun hHeld => ?_)
      refine wpAnyH_take (i := 0) (oi := { dst := some 17, op := Op.move (Operand.tmp 0), type := 22, pos := "exact.go:276", after := #[], guard := none }) (v := .slice (some ⟨b, off, none⟩) n cap) rfl (by kernel_rfl) (by kernel_rfl) (by kernel_rfl) (fun _ _ _ h => h) (Or.inl ⟨by rfl, by intro w hSw; go_simp⟩) hHeld ?_
      simp only [Act.put, List.setIfInBounds_toArray, List.set_cons_zero, List.set_cons_succ]
      refine wpAnyH_take (i := 1) (oi := { dst := some 18, op := Op.move (Operand.tmp 5), type := 3, pos := "exact.go:276", after := #[], guard := none }) (v := .int .i64 (k : Int)) rfl (by kernel_rfl) (by kernel_rfl) (by kernel_rfl) (fun _ _ _ h => h) (Or.inl ⟨by rfl, by intro w hSw; go_simp⟩) hHeld ?_
      simp only [Act.put, List.setIfInBounds_toArray, List.set_cons_zero, List.set_cons_succ]
      refine wpAnyH_take (i := 2) (oi := { dst := some 19, op := Op.indexAddr 22 (Operand.tmp 17) (Operand.tmp 18), type := 0, pos := "exact.go:276", after := #[⟨0, Ground.data⟩, ⟨1, Ground.data⟩], guard := none }) (v := .pointer (some ⟨b, off + k * 28, none⟩)) rfl (by kernel_rfl) (by kernel_rfl) (by kernel_rfl) (fun _ _ _ h => h) (Or.inl ⟨by rfl, by intro w hSw; go_simp⟩) hHeld ?_
      simp only [Act.put, List.setIfInBounds_toArray, List.set_cons_zero, List.set_cons_succ]
      refine wpAnyH_take (i := 3) (oi := { dst := some 20, op := Op.load 36 (Operand.tmp 19), type := 36, pos := "exact.go:276", after := #[⟨2, Ground.data⟩], guard := none }) (v := .agg (ndL x).toArray) rfl (by kernel_rfl) (by kernel_rfl) (by kernel_rfl) (fun _ _ _ h => h) (yieldsIf_load_mid (by rfl) 36 _ rfl (b) (off + k * 28) rfl (ndL x) _ (fun w h => h.1) Tryz.underlying36 rfl (by kernel_rfl)) hHeld ?_
      simp only [Act.put, List.setIfInBounds_toArray, List.set_cons_zero, List.set_cons_succ]
      refine wpAnyH_take (i := 4) (oi := { dst := some 21, op := Op.move (Operand.tmp 1), type := 22, pos := "exact.go:276", after := #[], guard := none }) (v := .slice (some ⟨b', off', none⟩) n cap') rfl (by kernel_rfl) (by kernel_rfl) (by kernel_rfl) (fun _ _ _ h => h) (Or.inl ⟨by rfl, by intro w hSw; go_simp⟩) hHeld ?_
      simp only [Act.put, List.setIfInBounds_toArray, List.set_cons_zero, List.set_cons_succ]
      refine wpAnyH_take (i := 5) (oi := { dst := some 22, op := Op.move (Operand.tmp 5), type := 3, pos := "exact.go:276", after := #[], guard := none }) (v := .int .i64 (k : Int)) rfl (by kernel_rfl) (by kernel_rfl) (by kernel_rfl) (fun _ _ _ h => h) (Or.inl ⟨by rfl, by intro w hSw; go_simp⟩) hHeld ?_
      simp only [Act.put, List.setIfInBounds_toArray, List.set_cons_zero, List.set_cons_succ]
      refine wpAnyH_take (i := 6) (oi := { dst := some 23, op := Op.indexAddr 22 (Operand.tmp 21) (Operand.tmp 22), type := 0, pos := "exact.go:276", after := #[⟨4, Ground.data⟩, ⟨5, Ground.data⟩], guard := none }) (v := .pointer (some ⟨b', off' + k * 28, none⟩)) rfl (by kernel_rfl) (by kernel_rfl) (by kernel_rfl) (fun _ _ _ h => h) (Or.inl ⟨by rfl, by intro w hSw; go_simp⟩) hHeld ?_
      simp only [Act.put, List.setIfInBounds_toArray, List.set_cons_zero, List.set_cons_succ]
      refine wpAnyH_take (i := 7) (oi := { dst := some 24, op := Op.load 36 (Operand.tmp 23), type := 36, pos := "exact.go:276", after := #[⟨6, Ground.data⟩], guard := none }) (v := .agg (ndL x).toArray) rfl (by kernel_rfl) (by kernel_rfl) (by kernel_rfl) (fun _ _ _ h => h) (yieldsIf_load_mid (by rfl) 36 _ rfl (b') (off' + k * 28) rfl (ndL x) _ (fun w h => h.2) Tryz.underlying36 rfl (by kernel_rfl)) hHeld ?_
      simp only [Act.put, List.setIfInBounds_toArray, List.set_cons_zero, List.set_cons_succ]
      refine wpAnyH_ready (rs := [8]) (by kernel_rfl) (by simp) ?_
      refine AllReadyH.cons (o := { dst := some 25, op := Op.call { callee := Callee.value (Operand.func 14), args := #[Operand.tmp 20, Operand.tmp 24], argTypes := #[36, 36] }, type := 4, pos := "exact.go:276", after := #[⟨3, Ground.data⟩, ⟨7, Ground.data⟩], guard := none }) rfl (fun K hK => ?_) AllReadyH.nil
      go_simp
      refine (EQ _).mono ?_
      rintro e w2 ⟨rfl, hb⟩
      have hx2 : w2.rangeAt b (off + k * 28) (ndL x) ∧ w2.rangeAt b' (off' + k * 28) (ndL x) := ⟨range_below hr ⟨hb.os, hb.tape, hb.output, hb.size, hb.block⟩ lb, range_below hs ⟨hb.os, hb.tape, hb.output, hb.size, hb.block⟩ lb'⟩
      go_wp2_with fail
      refine hK.out _ _ hx2 (fun hHeld2 => ?_)
      clear hK K
      try simp only [Act.put, List.setIfInBounds_toArray, List.set_cons_zero, List.set_cons_succ]
      refine wpAnyH_take (i := 9) (oi := { dst := some 26, op := Op.unOp UnOp.not 4 (Operand.tmp 25), type := 4, pos := "exact.go:276", after := #[⟨8, Ground.data⟩], guard := none }) (v := .bool false) rfl (by kernel_rfl) (by kernel_rfl) (by kernel_rfl) (fun _ _ _ h => h) (Or.inl ⟨by rfl, by intro w hSw; go_simp⟩) hHeld2 ?_
      simp only [Act.put, List.setIfInBounds_toArray, List.set_cons_zero, List.set_cons_succ]
      refine wpAnyH_done (by kernel_rfl) ?_ _
      have B2 : Below w.heap.size w w2 := hbw.trans (Below.mono (B := wr.heap.size) ⟨hb.os, hb.tape, hb.output, hb.size, hb.block⟩ hbw.size)
      clear hb hr hs EQ hbw hx2 hHeld hHeld2
      go_wp2
      go_roundw
      case rel => exact ⟨k + 1, by omega, by go_num, B2⟩
      case measure => simp [intOf]; omega
    · go_wp2
      go_ret
      exact ⟨rfl, hbw⟩

set_option maxHeartbeats 1000000 in
theorem eqNodes_none (a a' : Option Addr) (cap cap' : Nat) (w : World) :
    Calls Tryz.prog 6 #[.slice a 0 cap, .slice a' 0 cap'] w fun e w' => e = .returned (.bool true) ∧ Below w.heap.size w w' := by
  go_enter Tryz.func6, Tryz.ntmps6
  go_wp2
  refine wp_loop_rounds 1 ?_
  rw [rounds_succ]
  go_wp2
  go_ret
  exact ⟨rfl, Below.refl _ _⟩

/-- eqNodeS says yes of two rows of the same nodes. -/
theorem eqNodes (a a' : Option Addr) (cap cap' : Nat) (ns : List Nd) (w : World) (hr : NdRow w a ns) (hr' : NdRow w a' ns) (hl : ns.length ≤ 1048576) :
    Calls Tryz.prog 6 #[.slice a ns.length cap, .slice a' ns.length cap'] w fun e w' => e = .returned (.bool true) ∧ Below w.heap.size w w' := by
  rcases hr with rfl | ⟨b, off, rfl, hc⟩
  · exact eqNodes_none a a' cap cap' w
  · rcases hr' with rfl | ⟨b', off', rfl, hd⟩
    · exact eqNodes_none _ _ cap cap' w
    · exact eqNodes_some b off b' off' ns.length cap cap' ns w rfl hl hc hd
end Go.Proofs.YtddnphgpdnedbaaGreatDoor
