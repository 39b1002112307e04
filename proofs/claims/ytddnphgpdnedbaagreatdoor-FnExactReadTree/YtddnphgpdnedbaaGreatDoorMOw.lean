/-
  Rows of ints in memory: what it is that a slice reads as some numbers, and what keeps it so.
  Contracts of the laws' own copies of int slices: toIntS hands back a new row of the same numbers and leaves all older memory alone, for slices of at most 1048576 elements.
  Rows of ints that a call has made: what keeps them, and the contracts of the laws' own marking and looking again.
-/
import Derived.Test.YtddnphgpdnedbaaGreatDoorRows
import Derived.WalkKit
import Derived.ProofKit
import Derived.OpenShut
import Derived.Deep.QuietTactic
import Derived.BigQuiet
import Derived.WalkSmall
import Derived.Laws.OwnMore
import Derived.Maps.AppendAt
namespace Go.Proofs.YtddnphgpdnedbaaGreatDoor
open Go.ChangeShapes Go.WideShapes Go.ChangeAt Go.RowKit

/-- A slice value at address a reads as the numbers zs. -/
def Row (w : World) (a : Option Addr) (zs : List Int) : Prop :=
  zs = [] ∨ ∃ b off, a = some ⟨b, off, none⟩ ∧ ∀ i, i < zs.length → w.cell? ⟨b, off + i, none⟩ = some (.int .i64 (zs.getD i 0))

theorem block_lt {w : World} {b o : Nat} {v : Value} (h : w.cell? ⟨b, o, none⟩ = some v) : b < w.heap.size := by
  by_cases hb : b < w.heap.size
  · exact hb
  · have : w.heap[b]? = none := Array.getElem?_eq_none (by omega)
    simp [World.cell?, this] at h

theorem Row.below {w w' : World} {a : Option Addr} {zs : List Int} (h : Row w a zs) (hb : Below w.heap.size w w') : Row w' a zs := by
  rcases h with h | ⟨b, off, rfl, hc⟩
  · exact .inl h
  · exact .inr ⟨b, off, rfl, fun i hi => (hb.cell (block_lt (hc i hi))).trans (hc i hi)⟩

theorem own_lt {w : World} {base e size g n cap : Nat} {xs : List Value} (h : w.ownsRow base e size (.slice (some ⟨g, 0, none⟩) n cap) n xs) : g < w.heap.size := by
  rcases h.2 with ⟨h', _⟩ | ⟨g', cap', cur, h', _, hg, _⟩
  · simp at h'
  · simp only [Value.slice.injEq, Option.some.injEq, Addr.mk.injEq, and_true, true_and] at h'
    obtain ⟨rfl, rfl⟩ := h'
    by_cases hb : g < w.heap.size
    · exact hb
    · rw [Array.getElem?_eq_none (by omega)] at hg
      cases hg

/-- The first k cells of a row hold the first k numbers. -/
def Filled (xs : List Value) (zs : List Int) (k : Nat) : Prop := ∀ j, j < k → xs[j]? = some (.int .i64 (zs.getD j 0))
theorem filled_zero (xs : List Value) (zs : List Int) : Filled xs zs 0 := fun j h => absurd h (by omega)
theorem filled_set {xs : List Value} {zs : List Int} {k : Nat} (h : Filled xs zs k) (hk : k < xs.length) : Filled (xs.set k (.int .i64 (zs.getD k 0))) zs (k + 1) := by
  intro j hj
  rw [List.getElem?_set]
  by_cases e : k = j
  · subst e; rw [if_pos rfl, if_pos hk]
  · rw [if_neg e]; exact h j (by omega)

theorem Tryz.infoInt : (Tryz.prog.info? 3).map (fun i => (i.zero, i.size, i.bytes)) = some (some (.int .i64 0), 1, 8) := by kernel_rfl

end Go.Proofs.YtddnphgpdnedbaaGreatDoor

namespace Go.Proofs.YtddnphgpdnedbaaGreatDoor
open Go.ChangeShapes Go.WideShapes Go.ChangeAt Go.RowKit

end Go.Proofs.YtddnphgpdnedbaaGreatDoor

namespace Go.Proofs.YtddnphgpdnedbaaGreatDoor
open Go.ChangeShapes Go.WideShapes Go.ChangeAt Go.RowKit
set_option linter.unusedVariables false

/-- The slice v owns the numbers zs, in a block from B on. -/
def OwnI (w : World) (B : Nat) (v : Value) (zs : List Int) : Prop := w.ownsRow B 3 1 v zs.length (zs.map (Value.int .i64))
theorem ownI_nil (w : World) (B : Nat) : OwnI w B (.slice none 0 0) [] := World.ownsRow_nil w B 3 1
theorem OwnI.base {w : World} {B : Nat} {v : Value} {zs : List Int} (h : OwnI w B v zs) (k : Nat) (hk : v.ownBlock = some k) : B ≤ k := (h.lt k hk).1
theorem OwnI.row {w : World} {B : Nat} {v : Value} {zs : List Int} (h : OwnI w B v zs) : ∃ (a : Option Addr) (cap : Nat), v = .slice a zs.length cap ∧ Row w a zs := by
  have h' : w.ownsRow B 3 1 v zs.length (zs.map (Value.int .i64)) := h
  rcases h.2 with ⟨rfl, hn⟩ | ⟨g, cap, cur, rfl, _, _, _, _, _, _⟩
  · have : zs = [] := List.eq_nil_of_length_eq_zero hn
    subst this
    exact ⟨none, 0, rfl, .inl rfl⟩
  · refine ⟨some ⟨g, 0, none⟩, cap, rfl, .inr ⟨g, 0, rfl, fun i hi => ?_⟩⟩
    rw [Nat.zero_add, h'.cellAt i (by omega), List.getElem?_map, List.getD_eq_getElem?_getD, List.getElem?_eq_getElem hi]
    rfl
theorem OwnI.below {w w' : World} {B C : Nat} {v : Value} {zs : List Int} (h : OwnI w B v zs) (hb : Below C w w') (hlt : ∀ k, v.ownBlock = some k → k < C) : OwnI w' B v zs := by
  refine ⟨h.1, ?_⟩
  rcases h.2 with hn | ⟨g, cap, cur, rfl, hbg, hg, rest⟩
  · exact .inl hn
  · exact .inr ⟨g, cap, cur, rfl, hbg, (hb.block g (hlt g rfl)).trans hg, rest⟩
theorem OwnI.keep {w w' : World} {B : Nat} {v : Value} {zs : List Int} (h : OwnI w B v zs) (hb : Below w.heap.size w w') : OwnI w' B v zs := h.below hb fun k hk => (h.lt k hk).2
theorem OwnI.snoc {w : World} {B n : Nat} {v : Value} {zs : List Int} {z : Int} (hn : n = zs.length) (h : w.ownsRow B 3 1 v (n + 1) (zs.map (Value.int .i64) ++ [.int .i64 z])) : OwnI w B v (zs ++ [z]) := by
  subst hn
  unfold OwnI
  rw [List.length_append, List.map_append]
  exact h
theorem one_i64 (z : Int) : ∀ u ∈ [Value.int .i64 z], u.oneCell' = true := by
  intro u hu
  rw [List.mem_singleton] at hu
  subst hu
  rfl

/-- The numbers k, k + 1, .. -/
def marks (k n : Nat) : List Int := (List.range n).map fun j => ((k + j : Nat) : Int)
theorem marks_len (k n : Nat) : (marks k n).length = n := by simp [marks]
theorem marks_at (k n j : Nat) (h : j < n) : (marks k n).getD j 0 = ((k + j : Nat) : Int) := by simp [marks, List.getD_eq_getElem?_getD, h]
def markTo (zs : List Int) (k j : Nat) : List Int := marks k j ++ zs.drop j
theorem markTo_zero (zs : List Int) (k : Nat) : markTo zs k 0 = zs := by simp [markTo, marks]
theorem markTo_all (zs : List Int) (k : Nat) : markTo zs k zs.length = marks k zs.length := by simp [markTo]
theorem markTo_len (zs : List Int) (k j : Nat) (h : j ≤ zs.length) : (markTo zs k j).length = zs.length := by
  rw [markTo, List.length_append, marks_len, List.length_drop]; omega
theorem markTo_next (zs : List Int) (k j : Nat) (h : j < zs.length) : (markTo zs k j).set j ((k + j : Nat) : Int) = markTo zs k (j + 1) := by
  unfold markTo
  rw [List.set_append_right _ _ (by rw [marks_len]; exact Nat.le_refl _), marks_len, Nat.sub_self, List.drop_eq_getElem_cons h]
  simp only [List.set_cons_zero, marks, List.range_succ, List.map_append, List.append_assoc]
  rfl

end Go.Proofs.YtddnphgpdnedbaaGreatDoor
