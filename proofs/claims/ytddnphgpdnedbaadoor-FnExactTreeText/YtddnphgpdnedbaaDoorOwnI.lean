/-
  Rows of ints that a call has made: what keeps them, and the contracts of the laws' own marking and looking again.
-/
import Derived.Test.YtddnphgpdnedbaaDoorInts
import Derived.Laws.OwnMore
import Derived.Maps.AppendAt
namespace Go.Proofs.YtddnphgpdnedbaaDoor
open Go.ChangeShapes Go.WideShapes Go.ChangeAt Go.RowKit
set_option linter.unusedVariables false

/-- The slice v owns the numbers zs, in a block from B on. -/
def OwnI (w : World) (B : Nat) (v : Value) (zs : List Int) : Prop := w.ownsRow B 3 1 v zs.length (zs.map (Value.int .i64))
theorem ownI_nil (w : World) (B : Nat) : OwnI w B (.slice none 0 0) [] := World.ownsRow_nil w B 3 1
theorem OwnI.base {w : World} {B : Nat} {v : Value} {zs : List Int} (h : OwnI w B v zs) (k : Nat) (hk : v.ownBlock = some k) : B ≤ k := (h.lt k hk).1
theorem OwnI.row {w : World} {B : Nat} {v : Value} {zs : List Int} (h : OwnI w B v zs) : ∃ (a : Option Addr) (cap : Nat), v = .slice a zs.length cap ∧ Row w a zs := by
  have h' : w.ownsRow B 3 1 v zs.length (zs.map (Value.int .i64)) := h
  rcases h.2 with ⟨rfl, hn⟩ | ⟨g, cap, cur, rfl, _, _, _, _, _, _⟩
  · have : zs = [] := List.eq_nil_of_length_eq_zero hn
    subst this
    exact ⟨none, 0, rfl, .inl rfl⟩
  · refine ⟨some ⟨g, 0, none⟩, cap, rfl, .inr ⟨g, 0, rfl, fun i hi => ?_⟩⟩
    rw [Nat.zero_add, h'.cellAt i (by omega), List.getElem?_map, List.getD_eq_getElem?_getD, List.getElem?_eq_getElem hi]
    rfl
theorem OwnI.below {w w' : World} {B C : Nat} {v : Value} {zs : List Int} (h : OwnI w B v zs) (hb : Below C w w') (hlt : ∀ k, v.ownBlock = some k → k < C) : OwnI w' B v zs := by
  refine ⟨h.1, ?_⟩
  rcases h.2 with hn | ⟨g, cap, cur, rfl, hbg, hg, rest⟩
  · exact .inl hn
  · exact .inr ⟨g, cap, cur, rfl, hbg, (hb.block g (hlt g rfl)).trans hg, rest⟩
theorem OwnI.keep {w w' : World} {B : Nat} {v : Value} {zs : List Int} (h : OwnI w B v zs) (hb : Below w.heap.size w w') : OwnI w' B v zs := h.below hb fun k hk => (h.lt k hk).2
theorem OwnI.snoc {w : World} {B n : Nat} {v : Value} {zs : List Int} {z : Int} (hn : n = zs.length) (h : w.ownsRow B 3 1 v (n + 1) (zs.map (Value.int .i64) ++ [.int .i64 z])) : OwnI w B v (zs ++ [z]) := by
  subst hn
  unfold OwnI
  rw [List.length_append, List.map_append]
  exact h
theorem one_i64 (z : Int) : ∀ u ∈ [Value.int .i64 z], u.oneCell' = true := by
  intro u hu
  rw [List.mem_singleton] at hu
  subst hu
  rfl

/-- The numbers k, k + 1, .. -/
def marks (k n : Nat) : List Int := (List.range n).map fun j => ((k + j : Nat) : Int)
theorem marks_len (k n : Nat) : (marks k n).length = n := by simp [marks]
theorem marks_at (k n j : Nat) (h : j < n) : (marks k n).getD j 0 = ((k + j : Nat) : Int) := by simp [marks, List.getD_eq_getElem?_getD, h]
def markTo (zs : List Int) (k j : Nat) : List Int := marks k j ++ zs.drop j
theorem markTo_zero (zs : List Int) (k : Nat) : markTo zs k 0 = zs := by simp [markTo, marks]
theorem markTo_all (zs : List Int) (k : Nat) : markTo zs k zs.length = marks k zs.length := by simp [markTo]
theorem markTo_len (zs : List Int) (k j : Nat) (h : j ≤ zs.length) : (markTo zs k j).length = zs.length := by
  rw [markTo, List.length_append, marks_len, List.length_drop]; omega
theorem markTo_next (zs : List Int) (k j : Nat) (h : j < zs.length) : (markTo zs k j).set j ((k + j : Nat) : Int) = markTo zs k (j + 1) := by
  unfold markTo
  rw [List.set_append_right _ _ (by rw [marks_len]; exact Nat.le_refl _), marks_len, Nat.sub_self, List.drop_eq_getElem_cons h]
  simp only [List.set_cons_zero, marks, List.range_succ, List.map_append, List.append_assoc]
  rfl

end Go.Proofs.YtddnphgpdnedbaaDoor
