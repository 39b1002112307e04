/-
  A map literal keyed by strings, in memory: one more entry at a key that is not there yet.
-/
import Derived.WalkKit
import Derived.ProofKit
import Derived.WideMake
import Derived.Laws.IdiomRangeMap
import Derived.Maps.RangeRun
import Derived.Test.YtddnphgpdnedbaaDoorWide
namespace Go.Proofs.YtddnphgpdnedbaaDoor
open Go.ChangeShapes Go.WideShapes Go.ChangeAt Go.RowKit
set_option linter.unusedVariables false

theorem set_top (w : World) (x y : Obj) : ({ w.alloc x with heap := (w.alloc x).heap.setIfInBounds w.heap.size y } : World) = w.alloc y := by
  have e : (w.heap.push x).setIfInBounds w.heap.size y = w.heap.push y := by
    apply Array.toList_inj.1
    simp
  exact congrArg (fun h => ({ w with heap := h } : World)) e
theorem run_mapUpdate_at {P : Program} (w : World) (mty kt et : TypeId) (r : Nat) (es : Array MapEntry) (clock : Nat) (s : ByteArray) (val : Value) (hm : P.underlying mty = some (.map kt et)) (hk : P.underlying kt = some .string)
    (hb : w.heap[r]? = some (.map es clock)) (hf : Instr.findNow .string (.string s) es.toList 0 = some none) :
    (Instr.mapUpdate mty (.map (some r)) (.string s) val).run P w = .ok () { w with heap := w.heap.setIfInBounds r (.map (es.push { key := .string s, val := val, born := clock }) (clock + 1)) } := by
  have hc : (Instr.checkKey false 10000 kt (.string s)).run P w = .ok () w := MapKept.run_checkKey (k := .string s) hk (by simp [MapKept.IsKey]) false 9999
  simp [Instr.mapUpdate, run_underlying hm, MapKept.run_getObj_map hb, hc, MapKept.run_findKey hk hf, MapKept.run_setObj_map _ hb, Result.andThen]
theorem run_mapUpdate_new {P : Program} (w : World) (mty kt et : TypeId) (es : Array MapEntry) (clock : Nat) (s : ByteArray) (val : Value) (hm : P.underlying mty = some (.map kt et)) (hk : P.underlying kt = some .string)
    (hf : Instr.findNow .string (.string s) es.toList 0 = some none) :
    (Instr.mapUpdate mty (.map (some w.heap.size)) (.string s) val).run P (w.alloc (.map es clock)) = .ok () (w.alloc (.map (es.push { key := .string s, val := val, born := clock }) (clock + 1))) := by
  rw [run_mapUpdate_at (w.alloc (.map es clock)) mty kt et w.heap.size es clock s val hm hk (_root_.Go.heap_alloc_new w _) hf, set_top]
theorem put_block {r : Nat} {w w1 : World} {x o : Obj} (hr : w.heap[r]? = some x) (h : w1 = w ∨ w1 = w.drew) : Put r w (Go.ChangeMaps.setBlock w1 r o) ∧ (Go.ChangeMaps.setBlock w1 r o).heap[r]? = some o := by
  have hlt : r < w.heap.size := lies_lt hr
  have hh : (Go.ChangeMaps.setBlock w1 r o).heap = w.heap.setIfInBounds r o := by rcases h with rfl | rfl <;> rfl
  refine ⟨⟨by rcases h with rfl | rfl <;> rfl, by rcases h with rfl | rfl <;> rfl, by rcases h with rfl | rfl <;> rfl, by rw [hh]; simp, fun k hk => by rw [hh]; simp [Ne.symm hk]⟩, by rw [hh]; simp [hlt]⟩
/-- One step of a range over a map that stands: it is at its end, or one entry that is left comes out, and nothing but the iterator has turned. -/
theorem next_step {P : Program} (w : World) (r bm c : Nat) (seen : Array Nat) (es : Array MapEntry) (hr : w.heap[r]? = some (.mapIter (some bm) c seen c)) (hb : w.heap[bm]? = some (.map es c)) (hst : MapKept.Stamped es c) :
    (leftOf es seen).size = 0 ∨ ∃ e ∈ (leftOf es seen).toList, ∃ w2 : World, Put r w w2 ∧ w2.heap[r]? = some (.mapIter (some bm) c (seen.push e.born) c) ∧ ∀ ty, (Instr.next (.pointer (some ⟨r, 0, none⟩)) false ty).run P w = .ok (.tuple #[.bool true, e.key, e.val]) w2 := by
  rcases run_next_at (P := P) w 0 r bm c c seen es c hr hb hst.1 (Nat.le_refl _) with ⟨h, _⟩ | ⟨e, he, w1, h1, hrun⟩
  · exact .inl h
  · obtain ⟨p, q⟩ := put_block (o := .mapIter (some bm) c (seen.push e.born) c) hr h1
    exact .inr ⟨e, he, _, p, q, fun _ => hrun⟩
theorem iterSeen_of {w : World} {r a c : Nat} {m : Option Nat} {s : Array Nat} (h : w.heap[r]? = some (.mapIter m a s c)) : w.iterSeen r = s := by
  unfold World.iterSeen
  rw [h]
end Go.Proofs.YtddnphgpdnedbaaDoor
