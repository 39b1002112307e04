/-
  The program's GoodTree, for every row of nodes: it says just what treeB says.
-/
import Derived.Test.YtdgagjnkbmckoaaDoorNdN
import Derived.Test.YtdgagjnkbmckoaaDoorNdI
import Derived.Test.YtdgagjnkbmckoaaDoorOwnI
namespace Go.Proofs.YtdgagjnkbmckoaaDoor
open Go.ChangeShapes Go.WideShapes Go.ChangeAt Go.RowKit
set_option linter.unusedVariables false

/-- Here the walk stands still. -/
def Stay (p : Prop) : Prop := p
theorem stay {p : Prop} (h : Stay p) : p := h
theorem wpList_gen1 {P : Program} {ops : Array Oper} {rest : List Oper} {Q : Exit → Act → World → Prop} {a : Act} {w : World} {A : Obj}
    (h : ∀ W, Below w.heap.size w W → W.heap[w.heap.size]? = some A → W.heap.size = w.heap.size + 1 → wpList P ops Q rest a W) : wpList P ops Q rest a (w.alloc A) :=
  h _ ((Below.refl _ _).alloc (Nat.le_refl _) _) (heap_at _ _ _ rfl) (by simp)
/-- A whole struct stored into the block that was laid last: the world is a new letter. -/
theorem wpList_store_box {P : Program} {ops : Array Oper} {rest : List Oper} {o : Oper} {a : Act} {w : World} {Q : Exit → Act → World → Prop} {t : TypeId} {old : Array Value} (hgd : o.guard = none) (ty : TypeId) (x y : Operand) (ho : o.op = .store ty x y)
    (hd : o.dst = none) (cells : Array Value) (hx : a.eval x = .pointer (some ⟨w.heap.size, 0, none⟩)) (hy : a.eval y = .agg cells)
    (hi : (P.info? ty).map (·.size) = some cells.size) (hold : old.size = cells.size) (h1 : cells.all (·.oneCell') = true)
    (h : ∀ W, Below w.heap.size w W → W.heap[w.heap.size]? = some (.cells cells t (0, 0)) → W.heap.size = w.heap.size + 1 → wpList P ops Q rest a W) : wpList P ops Q (o :: rest) a (w.alloc (.cells old t)) :=
  wpList_store_new hgd ty x y ho hd cells t old w.heap.size rfl hx hy hi hold h1 (wpList_gen1 h)
theorem OwnI.cut {w : World} {B n cap : Nat} {a : Option Addr} {zs : List Int} (h : OwnI w B (.slice a n cap) zs) (m : Nat) (hm : m ≤ n) (hn : n = zs.length) : OwnI w B (.slice a m cap) (zs.take m) := by
  have h' : w.ownsRow B 3 1 (.slice a n cap) zs.length (zs.map (Value.int .i64)) := h
  have hl : (zs.take m).length = m := by rw [List.length_take]; omega
  unfold OwnI
  rw [hl]
  refine ⟨by rw [List.length_map, hl]; omega, ?_⟩
  rcases h'.2 with ⟨hv, h0⟩ | ⟨g, c, cur, hv, hb, hg, h1, h2, h3, h4⟩
  · left
    simp only [Value.slice.injEq] at hv
    obtain ⟨rfl, h5, rfl⟩ := hv
    have : m = 0 := by omega
    subst this
    exact ⟨rfl, rfl⟩
  · right
    simp only [Value.slice.injEq] at hv
    obtain ⟨rfl, h5, rfl⟩ := hv
    refine ⟨g, _, cur, rfl, hb, hg, by omega, h2, h3, ?_⟩
    have : cur.toList.take (m * 1) = (cur.toList.take (zs.length * 1)).take (m * 1) := by rw [List.take_take]; congr 1; omega
    rw [this, h4, Nat.mul_one, List.map_take]

/-- What one round does to what is around. -/
def cutL (ns : List Nd) (k : Nat) : List Int := (aroundL ns k).take (ixI (upL ns k) (aroundL ns k) + 1).toNat
theorem cut_next {ns : List Nd} {k : Nat} (h : okUp ns k = true) (hs : ∀ j, j < k → okUp ns j = true) : aroundL ns (k + 1) = if isT ns k = true then cutL ns k else cutL ns k ++ [(k : Int)] := by
  rw [aroundL]
  by_cases h0 : k = 0
  · subst h0
    rw [okUp, if_pos rfl, Bool.and_eq_true] at h
    have hT : isT ns 0 = false := by simpa using h.2
    have hu := of_decide_eq_true h.1
    have hc : chainL ns 0 = [(0 : Int)] := chain_top (k := 0) (by omega)
    simp [hT, hc, cutL, aroundL]
  · rw [okUp, if_neg h0, Bool.and_eq_true] at h
    have hin := of_decide_eq_true h.1
    have hT0 : isT ns 0 = false := by
      have := hs 0 (by omega)
      rw [okUp, if_pos rfl, Bool.and_eq_true] at this
      simpa using this.2
    obtain ⟨u, hu, e, hc, ht⟩ := (around_in (by omega) hT0 (stands_of k hs) _).1 hin
    have hcut : cutL ns k = chainL ns u := by
      rw [cutL, ixI_in hin, show ((idxL (upL ns k) (aroundL ns k) : Int) + 1).toNat = idxL (upL ns k) (aroundL ns k) + 1 by omega]
      rw [e] at hin ⊢
      exact around_take u hin
    rw [hcut, if_neg h0, e, chain_in e hu]
    rfl
theorem cut_len {ns : List Nd} {k : Nat} (h0 : 0 < k) (hin : upL ns k ∈ aroundL ns k) : (cutL ns k).length = idxL (upL ns k) (aroundL ns k) + 1 := by
  rw [cutL, ixI_in hin, List.length_take]
  have := idx_lt hin
  omega
theorem around_len {ns : List Nd} : ∀ (k : Nat), (∀ j, j < k → okUp ns j = true) → (aroundL ns k).length ≤ 8
  | 0, _ => by simp [aroundL]
  | k + 1, hs => by
    have hk := hs k (by omega)
    rw [cut_next hk (fun j hj => hs j (by omega))]
    have : (cutL ns k).length < 8 := by
      by_cases h0 : k = 0
      · subst h0; simp [cutL, aroundL]
      · rw [okUp, if_neg h0, Bool.and_eq_true] at hk
        rw [cut_len (by omega) (of_decide_eq_true hk.1)]
        exact of_decide_eq_true hk.2
    split
    · omega
    · rw [List.length_append, List.length_singleton]; omega
theorem getD_of {ns : List Nd} {k : Nat} {x : Nd} (h : ns[k]? = some x) : ns.getD k nd0 = x := by rw [List.getD_eq_getElem?_getD, h]; rfl
theorem snocB {ns : List Nd} {f : List Nd → Nat → Bool} {k : Nat} (h : ∀ j, j < k → f ns j = true) (hk : f ns k = true) : ∀ j, j < k + 1 → f ns j = true := fun j hj => by
  by_cases e : j = k
  · rw [e]; exact hk
  · exact h j (by omega)
theorem okAt_up {tB : ByteArray → Bool} {sB : St → Bool} {ns : List Nd} {j : Nat} (h : okAt tB sB ns j = true) : okUp ns j = true := by
  rw [okAt, Bool.and_eq_true] at h
  exact h.1
end Go.Proofs.YtdgagjnkbmckoaaDoor
