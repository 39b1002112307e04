/-
  The program's reader of words: a look into a map of words.
-/
import Derived.Test.YtdgagjnkbmckoaaGreatDoorRdS
import Derived.Test.YtdgagjnkbmckoaaGreatDoorWords
namespace Go.Proofs.YtdgagjnkbmckoaaGreatDoor
open Go.ChangeShapes Go.WideShapes Go.ChangeAt Go.RowKit
set_option linter.unusedVariables false

def entOf : List (ByteArray × Int) → Nat → List MapEntry
  | [], _ => []
  | (k, v) :: r, i => ⟨.string k, .int .i64 v, i⟩ :: entOf r (i + 1)
def getW : List (ByteArray × Int) → ByteArray → Option Int
  | [], _ => none
  | (k, v) :: r, s => if s == k then some v else getW r s
theorem findNow_ent (s : ByteArray) : ∀ (l : List (ByteArray × Int)) (i j : Nat), ∃ a, Instr.findNow .string (.string s) (entOf l j) i = some a ∧ a.map (·.2) = (getW l s).map (Value.int .i64)
  | [], i, j => ⟨none, rfl, rfl⟩
  | (k, v) :: r, i, j => by
    cases h : (s == k) with
    | true => exact ⟨some (i, .int .i64 v), by simp [entOf, Instr.findNow, Instr.sameNow, h], by simp [getW, h]⟩
    | false =>
      obtain ⟨a, h1, h2⟩ := findNow_ent s r (i + 1) (j + 1)
      exact ⟨a, by simp [entOf, Instr.findNow, Instr.sameNow, h, h1], by simp [getW, h, h2]⟩
theorem run_look (w : World) (r c : Nat) (l : List (ByteArray × Int)) (s : ByteArray) (hb : w.heap[r]? = some (.map (entOf l 0).toArray c)) :
    (Instr.lookup 94 (.map (some r)) (.string s) true).run Tryz.prog w = .ok (.tuple #[.int .i64 ((getW l s).getD 0), .bool (getW l s).isSome]) w := by
  obtain ⟨a, h1, h2⟩ := findNow_ent s l 0 0
  have hc : ∀ b : Bool, (Instr.checkKey b 10000 9 (.string s)).run Tryz.prog w = .ok () w := fun b => MapKept.run_checkKey (k := .string s) Tryz.underlying9 (by simp [MapKept.IsKey]) b 9999
  have hf : Instr.findNow .string (.string s) (entOf l 0).toArray.toList 0 = some a := h1
  have hk := MapKept.run_findKey (P := Tryz.prog) (w := w) Tryz.underlying9 hf
  cases a with
  | none =>
    have hg : getW l s = none := by cases hq : getW l s with | none => rfl | some q => rw [hq] at h2; cases h2
    rw [hg]
    simp [Instr.lookup, run_underlying Tryz.underlying94, MapKept.run_getObj_map hb, hc, hk, Result.andThen]
  | some iv =>
    obtain ⟨i, v⟩ := iv
    obtain ⟨q, hq, hv⟩ : ∃ q, getW l s = some q ∧ v = .int .i64 q := by
      cases hq : getW l s with
      | none => rw [hq] at h2; cases h2
      | some q => rw [hq] at h2; exact ⟨q, rfl, by simpa using h2⟩
    subst hv
    rw [hq]
    simp [Instr.lookup, run_underlying Tryz.underlying94, MapKept.run_getObj_map hb, hc, hk, Result.andThen]

set_option maxHeartbeats 1000000 in
theorem readWord_any (r c : Nat) (l : List (ByteArray × Int)) (s : ByteArray) (w : World) (hb : w.heap[r]? = some (.map (entOf l 0).toArray c)) :
    Calls Tryz.prog 50 #[.map (some r), .string s] w fun e w' => (∃ x, e = .returned (.tuple #[.int .i64 ((getW l s).getD 0), x]) ∧ (((getW l s).isSome = true ∧ x = .nilIface) ∨ ((getW l s).isSome = false ∧ FormE x))) ∧ Below w.heap.size w w' := by
  have LK := run_look w r c l s hb
  clear hb
  cases h : getW l s with
  | none =>
    rw [h] at LK
    simp only [Option.getD_none, Option.isSome_none] at LK ⊢
    go_enter Tryz.func50, Tryz.ntmps50
    go_wp2
    go_ret2
    exact ⟨⟨_, rfl, .inr ⟨by trivial, _, rfl⟩⟩, (Below.refl _ _).alloc (Nat.le_refl _) _⟩
  | some q =>
    rw [h] at LK
    simp only [Option.getD_some, Option.isSome_some] at LK ⊢
    go_enter Tryz.func50, Tryz.ntmps50
    go_wp2
    go_ret2
    exact ⟨⟨_, rfl, .inl ⟨by trivial, rfl⟩⟩, Below.refl _ _⟩
end Go.Proofs.YtdgagjnkbmckoaaGreatDoor
