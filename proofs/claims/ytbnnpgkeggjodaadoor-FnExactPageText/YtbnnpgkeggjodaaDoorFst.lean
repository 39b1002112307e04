/-
  The first of a row that is such, as a number; -1 where there is none.
-/
import Derived.Test.YtbnnpgkeggjodaaDoorPgE
namespace Go.Proofs.YtbnnpgkeggjodaaDoor
open Go.ChangeShapes Go.WideShapes Go.ChangeAt Go.RowKit
set_option linter.unusedVariables false

def firstG {α : Type} (p : α → Bool) (l : List α) : Int := if l.any p = true then (l.findIdx p : Int) else -1
theorem firstG_no {α : Type} {p : α → Bool} {l : List α} (h : ∀ (i : Nat) (x : α), i < l.length → l[i]? = some x → p x = false) : firstG p l = -1 := by
  unfold firstG
  rw [if_neg]
  intro h'
  obtain ⟨x, hm, hx⟩ := List.any_eq_true.1 h'
  obtain ⟨i, hi, rfl⟩ := List.getElem_of_mem hm
  rw [h i _ hi (List.getElem?_eq_getElem hi)] at hx
  cases hx
theorem firstG_yes {α : Type} {p : α → Bool} {l : List α} {k : Nat} {x : α} (hx : l[k]? = some x) (h : p x = true) (hp : ∀ (i : Nat) (y : α), i < k → l[i]? = some y → p y = false) : firstG p l = (k : Int) := by
  unfold firstG
  obtain ⟨hk, he⟩ := List.getElem?_eq_some_iff.1 hx
  rw [if_pos (List.any_eq_true.2 ⟨x, List.mem_of_getElem? hx, h⟩), (List.findIdx_eq hk).2 ⟨by rw [he]; exact h, fun j hj => hp j _ hj (List.getElem?_eq_getElem (by omega))⟩]
theorem firstG_ge {α : Type} (p : α → Bool) (l : List α) : -1 ≤ firstG p l ∧ firstG p l ≤ l.length := by
  unfold firstG
  split
  · have := @List.findIdx_le_length _ p l
    omega
  · omega
theorem stepG {α : Type} {p : α → Bool} {q : Bool} {l : List α} {k : Nat} {x : α} (hx : l[k]? = some x) (h : p x = q) (hp : ∀ (i : Nat) (x : α), i < k → l[i]? = some x → p x = q) (i : Nat) (y : α) (hi : i < k + 1) (hy : l[i]? = some y) : p y = q := by
  by_cases e : i = k
  · subst e
    obtain rfl := Option.some.inj (hx.symm.trans hy)
    exact h
  · exact hp i y (by omega) hy
theorem bx_some {w : World} {a : Option Addr} {l : List Bx} (hr : BxRow w a l) {i : Nat} {x : Bx} (h : l[i]? = some x) : ∃ b off, a = some ⟨b, off, none⟩ ∧ ∀ i n, l[i]? = some n → w.rangeAt b (off + i * 4) (bxL n) := by
  rcases hr with h' | h'
  · rw [h'] at h; simp at h
  · exact h'
theorem pl_some {w : World} {a : Option Addr} {l : List Plc} (hr : PlRow w a l) {i : Nat} {x : Plc} (h : l[i]? = some x) : ∃ b off, a = some ⟨b, off, none⟩ ∧ ∀ i n, l[i]? = some n → w.rangeAt b (off + i * 4) (plL n) := by
  rcases hr with h' | h'
  · rw [h'] at h; simp at h
  · exact h'
theorem results_row_tmpP {P : Program} {fn : Func} {p q : Tmp} {ty : TypeId} (h : fn.results = #[.cell p ty, .tmp q]) (tmps : Array Value) (w : World) (g : Nat) (t : TypeId) (cs : Array Value) (fr : Nat × Nat) (d : TypeDesc) (v : Value)
    (hp : tmps.getD p undef = .pointer (some ⟨g, 0, none⟩)) (hg : w.heap[g]? = some (.cells cs t fr))
    (hu : P.underlying ty = some d) (hd : (match d with | .struct _ | .array _ _ => true | _ => false) = true) (hi : (P.info? ty).map (·.size) = some cs.size) (hq : tmps.getD q undef = v) :
    (results fn tmps).run P w = .ok (.tuple #[.agg cs, v]) w := by
  have hp' : tmps[p]?.getD undef = .pointer (some ⟨g, 0, none⟩) := by simpa using hp
  have hq' : tmps[q]?.getD undef = v := by simpa using hq
  simp [results, h, hp', hq', asAddr, run_loadVar_row w g t ty cs fr d hg hu hd hi]
def plC (x : Plc) : Array Value := #[.int .i64 x.x, .int .i64 x.y, .int .i64 x.w, .int .i64 x.h]
theorem ret_tupV {a b : Value} {c d : Value} (h : a = b) (h' : c = d) : Ending.returned (.tuple #[a, c]) = .returned (.tuple #[b, d]) := by rw [h, h']
end Go.Proofs.YtbnnpgkeggjodaaDoor
