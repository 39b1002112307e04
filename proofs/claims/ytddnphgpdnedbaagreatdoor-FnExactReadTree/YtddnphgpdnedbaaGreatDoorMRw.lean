/-
  The program's reader of words: a look into a map of words.
  The program's reader of one thing: what is read goes into the thing's place in the style.
  The program's reader at the k-th thing of a style.
  The program's reader of the thing at a text's front.
-/
import Derived.Test.YtddnphgpdnedbaaGreatDoorRdS
import Derived.Test.YtddnphgpdnedbaaGreatDoorMTl
import Derived.Deep.MidRow
import Derived.Deep.RegionHeld3
import Derived.Test.YtddnphgpdnedbaaGreatDoorMSc
namespace Go.Proofs.YtddnphgpdnedbaaGreatDoor
open Go.ChangeShapes Go.WideShapes Go.ChangeAt Go.RowKit
set_option linter.unusedVariables false

def entOf : List (ByteArray × Int) → Nat → List MapEntry
  | [], _ => []
  | (k, v) :: r, i => ⟨.string k, .int .i64 v, i⟩ :: entOf r (i + 1)
def getW : List (ByteArray × Int) → ByteArray → Option Int
  | [], _ => none
  | (k, v) :: r, s => if s == k then some v else getW r s
theorem findNow_ent (s : ByteArray) : ∀ (l : List (ByteArray × Int)) (i j : Nat), ∃ a, Instr.findNow .string (.string s) (entOf l j) i = some a ∧ a.map (·.2) = (getW l s).map (Value.int .i64)
  | [], i, j => ⟨none, rfl, rfl⟩
  | (k, v) :: r, i, j => by
    cases h : (s == k) with
    | true => exact ⟨some (i, .int .i64 v), by simp [entOf, Instr.findNow, Instr.sameNow, h], by simp [getW, h]⟩
    | false =>
      obtain ⟨a, h1, h2⟩ := findNow_ent s r (i + 1) (j + 1)
      exact ⟨a, by simp [entOf, Instr.findNow, Instr.sameNow, h, h1], by simp [getW, h, h2]⟩
theorem run_look (w : World) (r c : Nat) (l : List (ByteArray × Int)) (s : ByteArray) (hb : w.heap[r]? = some (.map (entOf l 0).toArray c)) :
    (Instr.lookup 154 (.map (some r)) (.string s) true).run Tryz.prog w = .ok (.tuple #[.int .i64 ((getW l s).getD 0), .bool (getW l s).isSome]) w := by
  obtain ⟨a, h1, h2⟩ := findNow_ent s l 0 0
  have hc : ∀ b : Bool, (Instr.checkKey b 10000 9 (.string s)).run Tryz.prog w = .ok () w := fun b => MapKept.run_checkKey (k := .string s) Tryz.underlying9 (by simp [MapKept.IsKey]) b 9999
  have hf : Instr.findNow .string (.string s) (entOf l 0).toArray.toList 0 = some a := h1
  have hk := MapKept.run_findKey (P := Tryz.prog) (w := w) Tryz.underlying9 hf
  cases a with
  | none =>
    have hg : getW l s = none := by cases hq : getW l s with | none => rfl | some q => rw [hq] at h2; cases h2
    rw [hg]
    simp [Instr.lookup, run_underlying Tryz.underlying154, MapKept.run_getObj_map hb, hc, hk, Result.andThen]
  | some iv =>
    obtain ⟨i, v⟩ := iv
    obtain ⟨q, hq, hv⟩ : ∃ q, getW l s = some q ∧ v = .int .i64 q := by
      cases hq : getW l s with
      | none => rw [hq] at h2; cases h2
      | some q => rw [hq] at h2; exact ⟨q, rfl, by simpa using h2⟩
    subst hv
    rw [hq]
    simp [Instr.lookup, run_underlying Tryz.underlying154, MapKept.run_getObj_map hb, hc, hk, Result.andThen]

set_option maxHeartbeats 1000000 in
theorem readWord_any (r c : Nat) (l : List (ByteArray × Int)) (s : ByteArray) (w : World) (hb : w.heap[r]? = some (.map (entOf l 0).toArray c)) :
    Calls Tryz.prog 117 #[.map (some r), .string s] w fun e w' => (∃ x, e = .returned (.tuple #[.int .i64 ((getW l s).getD 0), x]) ∧ (((getW l s).isSome = true ∧ x = .nilIface) ∨ ((getW l s).isSome = false ∧ FormE x))) ∧ Below w.heap.size w w' := by
  have LK := run_look w r c l s hb
  clear hb
  cases h : getW l s with
  | none =>
    rw [h] at LK
    simp only [Option.getD_none, Option.isSome_none] at LK ⊢
    go_enter Tryz.func117, Tryz.ntmps117
    go_wp2
    go_ret2
    exact ⟨⟨_, rfl, .inr ⟨by trivial, _, rfl⟩⟩, (Below.refl _ _).alloc (Nat.le_refl _) _⟩
  | some q =>
    rw [h] at LK
    simp only [Option.getD_some, Option.isSome_some] at LK ⊢
    go_enter Tryz.func117, Tryz.ntmps117
    go_wp2
    go_ret2
    exact ⟨⟨_, rfl, .inl ⟨by trivial, rfl⟩⟩, Below.refl _ _⟩
end Go.Proofs.YtddnphgpdnedbaaGreatDoor

namespace Go.Proofs.YtddnphgpdnedbaaGreatDoor
open Go.ChangeShapes Go.WideShapes Go.ChangeAt Go.RowKit
set_option linter.unusedVariables false

theorem setCells_row {P : Program} {w : World} {g o : Nat} {vs : List Value} {c : Array Value} {t : TypeId} (hg : w.heap[g]? = some (.cells c t (0, 0))) (hl : o + vs.length ≤ c.size) (h1 : ∀ v ∈ vs, v.oneCell' = true) :
    w.setCells g o vs = w.setRow g (c.toList.take o ++ vs ++ c.toList.drop (o + vs.length)).toArray := by
  have a1 := run_storeCells_at (P := P) g o t vs 0 c w hg (by simpa using hl) h1
  have hsz : ∀ j, j < vs.length → o + j < c.size := fun j hj => by omega
  have a2 := run_storeCells_cells (P := P) g o vs 0 w (fun j hj => by rw [Nat.add_zero, lies_cell hg, Array.getElem?_eq_getElem (hsz j hj)]; rfl) (fun j hj => by rw [World.frozen?, hg]; simp) h1
  simp only [Nat.add_zero] at a1 a2
  rw [a1] at a2
  injection a2 with _ h
  exact h.symm
/-- What a reader leaves: the style's block with some cells set, all older memory else as it was. -/
theorem put_cells {P : Program} {w w1 : World} {g o : Nat} {vs : List Value} {c : Array Value} {t : TypeId} (hb : Below w.heap.size w w1) (hg : w.heap[g]? = some (.cells c t (0, 0))) (hl : o + vs.length ≤ c.size) (h1 : ∀ v ∈ vs, v.oneCell' = true) :
    (w1.setCells g o vs).heap[g]? = some (.cells (putA c o vs) t (0, 0)) ∧ w.grownBy (w1.setCells g o vs) (some g) := by
  have hg1 := below_lies hb hg (lies_lt hg)
  rw [setCells_row (P := P) hg1 hl h1]
  refine ⟨?_, ?_⟩
  · rw [putA, putL_eq vs c.toList o (by simpa using hl)]
    exact setRow_heap w1 g c _ t _ hg1
  · have p := put_setRow w1 g (c.toList.take o ++ vs ++ c.toList.drop (o + vs.length)).toArray
    exact ⟨p.os.trans hb.os, p.tape.trans hb.tape, p.output.trans hb.output, by rw [p.size]; exact hb.size, fun k hk hne => (p.other k (by simpa using hne)).trans (hb.block k hk)⟩
theorem mapNil (w : World) : (binOp .neq 154 (.map none) (.map none)).run Tryz.prog w = .ok (.bool false) w := by kernel_rfl
theorem mapSome (r : Nat) (w : World) : (binOp .neq 154 (.map (some r)) (.map none)).run Tryz.prog w = .ok (.bool true) w := by kernel_rfl
theorem grown_drewN' {w w1 : World} {g : Nat} (h : w.grownBy w1 (some g)) (n : Nat) : w.grownBy (w1.drewN n) (some g) := ⟨h.os, h.tape, h.output, h.size, h.block⟩

set_option maxRecDepth 100000 in
set_option maxHeartbeats 4000000 in
theorem readZ_any (nm v : ByteArray) (g o : Nat) (lo hi : Int) (np : Bool) (c : Array Value) (t : TypeId) (w : World) (hs : v.size ≤ 1048576) (ab : Addr) (hE : BeyE ab w) (hT : ErrT w)
    (hg : w.heap[g]? = some (.cells c t (0, 0))) (hl : o + 3 ≤ c.size)
    (WO : ∀ w, Calls Tryz.prog 113 #[.string nm] w fun e w' => e = .returned (.map none) ∧ w' = w) :
    Calls Tryz.prog 106 #[.agg #[.string nm, .pointer none, .pointer (some ⟨g, o, none⟩), .int .i64 lo, .int .i64 hi, .bool np], .string v] w fun e w' =>
      (∃ x, e = .returned x ∧ ((szOk v = true ∧ x = .nilIface) ∨ (szOk v = false ∧ FaultE ab x))) ∧ w'.heap[g]? = some (.cells (putA c o [.bool (szVal v).a, .bool (szVal v).p, .int .i64 (szVal v).n]) t (0, 0)) ∧ w.grownBy w' (some g) := by
  have RS := fun (W : World) (hb : Below w.heap.size w W) => readSize_any v W hs ab (hE.below hb) (hT.below hb)
  generalize szVal v = z at RS ⊢
  generalize szOk v = ok at RS ⊢
  have ltg := lies_lt hg
  have hne : ¬ g = w.heap.size := by omega
  have hne' : ¬ w.heap.size = g := by omega
  have HG : Hid (w.heap[g]? = some (.cells c t (0, 0))) := hg
  clear hE hT hg
  go_enter Tryz.func106, Tryz.ntmps106
  go_wp2_with (go_at_call 113; refine (WO _).mono ?_; rintro e w1 ⟨rfl, hw⟩; have hw := hw.symm; subst hw)
  go_region_held3 (fun w' => w'.cell? ⟨w.heap.size, 2, none⟩ = some (.pointer (some ⟨g, o, none⟩)))
    (first | go_keep | exact x2)
    ((first
      | (go_at_call 116; refine (RS _ (by first | exact ((Below.refl _ _).alloc (Nat.le_refl _) _).drew)).mono ?_; rintro e w1 ⟨⟨x, rfl, hx⟩, hb⟩; have hb' : Below (w.heap.size + 1) (w.alloc (.cells #[.string nm, .pointer none, .pointer (some ⟨g, o, none⟩), .int .i64 lo, .int .i64 hi, .bool np] 130)) w1 := ⟨hb.os, hb.tape, hb.output, hb.size, fun k hk => hb.block k (by simp; omega)⟩; have x2 : w1.cell? ⟨w.heap.size, 2, none⟩ = some (.pointer (some ⟨g, o, none⟩)) := (hb'.cell (p := ⟨w.heap.size, 2, none⟩) (by simp)).trans (by simp); have hg1 : w1.heap[g]? = some (.cells c t (0, 0)) := below_lies hb' (heap_in HG.out) (by omega); obtain ⟨u0, hu0⟩ : ∃ u, w1.cell? ⟨g, o, none⟩ = some u := ⟨_, (lies_cell hg1 _).trans (Array.getElem?_eq_getElem (by omega))⟩; have hf0 : w1.frozen? ⟨g, o, none⟩ = false := (by rw [World.frozen?, hg1]; simp); obtain ⟨u1, hu1⟩ : ∃ u, w1.cell? ⟨g, o + 1, none⟩ = some u := ⟨_, (lies_cell hg1 _).trans (Array.getElem?_eq_getElem (by omega))⟩; have hf1 : w1.frozen? ⟨g, o + 1, none⟩ = false := (by rw [World.frozen?, hg1]; simp); obtain ⟨u2, hu2⟩ : ∃ u, w1.cell? ⟨g, o + 2, none⟩ = some u := ⟨_, (lies_cell hg1 _).trans (Array.getElem?_eq_getElem (by omega))⟩; have hf2 : w1.frozen? ⟨g, o + 2, none⟩ = false := (by rw [World.frozen?, hg1]; simp))
      | fail))
  have bw1 : Below w.heap.size w w1 := ((Below.refl _ _).alloc (Nat.le_refl _) _).trans (hb'.mono (by omega))
  have R : (((w1.setCell ⟨g, o, none⟩ (.bool z.a)).setCell ⟨g, o + 1, none⟩ (.bool z.p)).setCell ⟨g, o + 2, none⟩ (.int .i64 z.n)).heap[g]? = some (.cells (putA c o [.bool z.a, .bool z.p, .int .i64 z.n]) t (0, 0)) ∧ w.grownBy (((w1.setCell ⟨g, o, none⟩ (.bool z.a)).setCell ⟨g, o + 1, none⟩ (.bool z.p)).setCell ⟨g, o + 2, none⟩ (.int .i64 z.n)) (some g) :=
    put_cells (P := Tryz.prog) (vs := [.bool z.a, .bool z.p, .int .i64 z.n]) bw1 HG.out hl (by simp [Value.oneCell'])
  clear bw1 hb hb' hg1 hu0 hu1 hu2 hf0 hf1 hf2 x2 RS WO
  revert R
  generalize ((w1.setCell ⟨g, o, none⟩ (.bool z.a)).setCell ⟨g, o + 1, none⟩ (.bool z.p)).setCell ⟨g, o + 2, none⟩ (.int .i64 z.n) = w2
  intro R
  go_wp2
  go_ret
  exact ⟨⟨_, rfl, hx⟩, R.1, R.2⟩

set_option maxRecDepth 100000 in
set_option maxHeartbeats 4000000 in
theorem readL_any (nm v : ByteArray) (g o : Nat) (lo hi : Int) (np : Bool) (c : Array Value) (t : TypeId) (w : World) (hs : v.size ≤ 1048576)
    (hg : w.heap[g]? = some (.cells c t (0, 0))) (hl : o + 1 ≤ c.size)
    (WO : ∀ w, Calls Tryz.prog 113 #[.string nm] w fun e w' => e = .returned (.map none) ∧ w' = w) :
    Calls Tryz.prog 106 #[.agg #[.string nm, .pointer (some ⟨g, o, none⟩), .pointer none, .int .i64 lo, .int .i64 hi, .bool np], .string v] w fun e w' =>
      (∃ x, e = .returned x ∧ ((readB v = true ∧ x = .nilIface) ∨ (readB v = false ∧ FormE x))) ∧ w'.heap[g]? = some (.cells (putA c o [.int .i64 (readN v)]) t (0, 0)) ∧ w.grownBy w' (some g) := by
  have RS := fun (W : World) => readLength_any v W hs
  generalize readN v = z at RS ⊢
  generalize readB v = ok at RS ⊢
  have ltg := lies_lt hg
  have hne : ¬ g = w.heap.size := by omega
  have hne' : ¬ w.heap.size = g := by omega
  have HG : Hid (w.heap[g]? = some (.cells c t (0, 0))) := hg
  clear hg
  have MN := mapNil
  have MS := mapSome
  go_enter Tryz.func106, Tryz.ntmps106
  go_wp2_with (go_at_call 113; refine (WO _).mono ?_; rintro e w1 ⟨rfl, hw⟩; have hw := hw.symm; subst hw)
  go_region_held3 (fun w' => w'.cell? ⟨w.heap.size, 1, none⟩ = some (.pointer (some ⟨g, o, none⟩)))
    (first | go_keep | exact x2)
    ((first
      | (go_at_call 118; refine (RS _).mono ?_; rintro e w1 ⟨⟨x, rfl, hx⟩, hb⟩; have hb' : Below (w.heap.size + 1) (w.alloc (.cells #[.string nm, .pointer (some ⟨g, o, none⟩), .pointer none, .int .i64 lo, .int .i64 hi, .bool np] 130)) w1 := ⟨hb.os, hb.tape, hb.output, hb.size, fun k hk => hb.block k (by simp; omega)⟩; have x2 : w1.cell? ⟨w.heap.size, 1, none⟩ = some (.pointer (some ⟨g, o, none⟩)) := (hb'.cell (p := ⟨w.heap.size, 1, none⟩) (by simp)).trans (by simp); have hg1 : w1.heap[g]? = some (.cells c t (0, 0)) := below_lies hb' (heap_in HG.out) (by omega); obtain ⟨u0, hu0⟩ : ∃ u, w1.cell? ⟨g, o, none⟩ = some u := ⟨_, (lies_cell hg1 _).trans (Array.getElem?_eq_getElem (by omega))⟩; have hf0 : w1.frozen? ⟨g, o, none⟩ = false := (by rw [World.frozen?, hg1]; simp))
      | fail))
  have bw1 : Below w.heap.size w w1 := ((Below.refl _ _).alloc (Nat.le_refl _) _).trans (hb'.mono (by omega))
  have R : (w1.setCell ⟨g, o, none⟩ (.int .i64 z)).heap[g]? = some (.cells (putA c o [.int .i64 z]) t (0, 0)) ∧ w.grownBy (w1.setCell ⟨g, o, none⟩ (.int .i64 z)) (some g) :=
    put_cells (P := Tryz.prog) (vs := [.int .i64 z]) bw1 HG.out hl (by simp [Value.oneCell'])
  clear bw1 hb hb' hg1 hu0 hf0 x2 RS WO
  revert R
  generalize w1.setCell ⟨g, o, none⟩ (.int .i64 z) = w2
  intro R
  go_wp2
  go_ret
  exact ⟨⟨_, rfl, hx⟩, R.1, R.2⟩

set_option maxRecDepth 100000 in
set_option maxHeartbeats 4000000 in
theorem readW_any (nm v : ByteArray) (g o : Nat) (lo hi : Int) (np : Bool) (c : Array Value) (t : TypeId) (l : List (ByteArray × Int)) (cl : Nat) (w : World)
    (hg : w.heap[g]? = some (.cells c t (0, 0))) (hl : o + 1 ≤ c.size)
    (WO : ∀ w, Calls Tryz.prog 113 #[.string nm] w fun e w' => e = .returned (.map (some w.heap.size)) ∧ w' = w.alloc (.map (entOf l 0).toArray cl)) :
    Calls Tryz.prog 106 #[.agg #[.string nm, .pointer (some ⟨g, o, none⟩), .pointer none, .int .i64 lo, .int .i64 hi, .bool np], .string v] w fun e w' =>
      (∃ x, e = .returned x ∧ (((getW l v).isSome = true ∧ x = .nilIface) ∨ ((getW l v).isSome = false ∧ FormE x))) ∧ w'.heap[g]? = some (.cells (putA c o [.int .i64 ((getW l v).getD 0)]) t (0, 0)) ∧ w.grownBy w' (some g) := by
  have RS := fun (W : World) (h : W.heap[w.heap.size + 1]? = some (.map (entOf l 0).toArray cl)) => readWord_any (w.heap.size + 1) cl l v W h
  generalize (getW l v).getD 0 = z at RS ⊢
  generalize (getW l v).isSome = ok at RS ⊢
  have ltg := lies_lt hg
  have hne : ¬ g = w.heap.size := by omega
  have hne' : ¬ w.heap.size = g := by omega
  have HG : Hid (w.heap[g]? = some (.cells c t (0, 0))) := hg
  clear hg
  have MN := mapNil
  have MS := mapSome
  go_enter Tryz.func106, Tryz.ntmps106
  go_wp2_with (go_at_call 113; refine (WO _).mono ?_; rintro e w1 ⟨rfl, rfl⟩)
  have lm : ((w.alloc (.cells #[.string nm, .pointer (some ⟨g, o, none⟩), .pointer none, .int .i64 lo, .int .i64 hi, .bool np] 130)).alloc (.map (entOf l 0).toArray cl)).heap[w.heap.size + 1]? = some (.map (entOf l 0).toArray cl) := heap_at _ _ _ (by simp)
  have lb : ((w.alloc (.cells #[.string nm, .pointer (some ⟨g, o, none⟩), .pointer none, .int .i64 lo, .int .i64 hi, .bool np] 130)).alloc (.map (entOf l 0).toArray cl)).heap[w.heap.size]? = some (.cells #[.string nm, .pointer (some ⟨g, o, none⟩), .pointer none, .int .i64 lo, .int .i64 hi, .bool np] 130 (0, 0)) := heap_in (heap_at _ _ _ rfl)
  have lg : ((w.alloc (.cells #[.string nm, .pointer (some ⟨g, o, none⟩), .pointer none, .int .i64 lo, .int .i64 hi, .bool np] 130)).alloc (.map (entOf l 0).toArray cl)).heap[g]? = some (.cells c t (0, 0)) := heap_in (heap_in HG.out)
  have bW : Below w.heap.size w ((w.alloc (.cells #[.string nm, .pointer (some ⟨g, o, none⟩), .pointer none, .int .i64 lo, .int .i64 hi, .bool np] 130)).alloc (.map (entOf l 0).toArray cl)) := ((Below.refl _ _).alloc (Nat.le_refl _) _).alloc (by simp) _
  have zW : w.heap.size + 1 < ((w.alloc (.cells #[.string nm, .pointer (some ⟨g, o, none⟩), .pointer none, .int .i64 lo, .int .i64 hi, .bool np] 130)).alloc (.map (entOf l 0).toArray cl)).heap.size := by simp
  revert lm lb lg bW zW
  generalize ((w.alloc (.cells #[.string nm, .pointer (some ⟨g, o, none⟩), .pointer none, .int .i64 lo, .int .i64 hi, .bool np] 130)).alloc (.map (entOf l 0).toArray cl)) = W
  intro lm lb lg bW zW
  have xb : W.cell? ⟨w.heap.size, 1, none⟩ = some (.pointer (some ⟨g, o, none⟩)) := (lies_cell lb 1).trans rfl
  have R0 := RS W.drew lm
  clear RS
  go_region_held3 (fun w' => w'.cell? ⟨w.heap.size, 1, none⟩ = some (.pointer (some ⟨g, o, none⟩)))
    (first | go_keep | exact x2)
    ((first
      | (go_at_call 117; refine R0.mono ?_; rintro e w1 ⟨⟨x, rfl, hx⟩, hb⟩; have hb' : Below W.heap.size W w1 := ⟨hb.os, hb.tape, hb.output, hb.size, hb.block⟩; have x2 : w1.cell? ⟨w.heap.size, 1, none⟩ = some (.pointer (some ⟨g, o, none⟩)) := (hb'.cell (p := ⟨w.heap.size, 1, none⟩) (by show w.heap.size < _; omega)).trans xb; have hg1 : w1.heap[g]? = some (.cells c t (0, 0)) := below_lies hb' lg (by omega); obtain ⟨u0, hu0⟩ : ∃ u, w1.cell? ⟨g, o, none⟩ = some u := ⟨_, (lies_cell hg1 _).trans (Array.getElem?_eq_getElem (by omega))⟩; have hf0 : w1.frozen? ⟨g, o, none⟩ = false := (by rw [World.frozen?, hg1]; simp))
      | fail))
  have bw1 : Below w.heap.size w w1 := bW.trans (hb'.mono (by omega))
  have R : (w1.setCell ⟨g, o, none⟩ (.int .i64 z)).heap[g]? = some (.cells (putA c o [.int .i64 z]) t (0, 0)) ∧ w.grownBy (w1.setCell ⟨g, o, none⟩ (.int .i64 z)) (some g) :=
    put_cells (P := Tryz.prog) (vs := [.int .i64 z]) bw1 HG.out hl (by simp [Value.oneCell'])
  clear bw1 hb hb' hg1 hu0 hf0 x2 WO R0 lm lb lg bW xb
  revert R
  generalize w1.setCell ⟨g, o, none⟩ (.int .i64 z) = w2
  intro R
  go_wp2
  go_ret
  exact ⟨⟨_, rfl, hx⟩, R.1, R.2⟩
end Go.Proofs.YtddnphgpdnedbaaGreatDoor

namespace Go.Proofs.YtddnphgpdnedbaaGreatDoor
open Go.ChangeShapes Go.WideShapes Go.ChangeAt Go.RowKit
set_option linter.unusedVariables false

/-- A style with its k-th thing set: to a number if it is said by words, else to a size, or a size's number. -/
def setT (s : St) (k : Nat) (n : Int) (z : Sz) : St :=
  match k with
  | 0 => { s with sh := n }
  | 1 => { s with fl := n }
  | 2 => { s with cl := n }
  | 3 => { s with w := z }
  | 4 => { s with h := z }
  | 5 => { s with mn := z.n }
  | 6 => { s with mx := z.n }
  | 7 => { s with mt := z.n }
  | 8 => { s with mr := z }
  | 9 => { s with mb := z.n }
  | 10 => { s with ml := z }
  | 11 => { s with bo := z.n }
  | 12 => { s with pa := z.n }
  | 13 => { s with wh := n }
  | 14 => { s with al := n }
  | 15 => { s with lh := z.n }
  | 16 => { s with ri := z.n }
  | 17 => { s with dn := z.n }
  | _ => s
def wm (k : Nat) : List (ByteArray × Int) :=
  match k with
  | 0 => [(⟨#[98, 108, 111, 99, 107]⟩, 1), (⟨#[105, 110, 108, 105, 110, 101]⟩, 2), (⟨#[110, 111, 110, 101]⟩, 3)]
  | 1 => [(⟨#[110, 111, 110, 101]⟩, 0), (⟨#[108, 101, 102, 116]⟩, 1), (⟨#[114, 105, 103, 104, 116]⟩, 2)]
  | 2 => [(⟨#[110, 111, 110, 101]⟩, 0), (⟨#[108, 101, 102, 116]⟩, 1), (⟨#[114, 105, 103, 104, 116]⟩, 2), (⟨#[98, 111, 116, 104]⟩, 3)]
  | 13 => [(⟨#[110, 111, 114, 109, 97, 108]⟩, 1), (⟨#[110, 111, 119, 114, 97, 112]⟩, 2), (⟨#[112, 114, 101]⟩, 3), (⟨#[112, 114, 101, 45, 119, 114, 97, 112]⟩, 4), (⟨#[112, 114, 101, 45, 108, 105, 110, 101]⟩, 5)]
  | 14 => [(⟨#[108, 101, 102, 116]⟩, 1), (⟨#[114, 105, 103, 104, 116]⟩, 2), (⟨#[99, 101, 110, 116, 101, 114]⟩, 3)]
  | _ => []
def isZ (k : Nat) : Bool := ([false, false, false, true, true, false, false, false, true, false, true, false, false, false, false, false, false, false] : List Bool).getD k false
def isV (k : Nat) : Bool := ([true, true, true, false, false, false, false, false, false, false, false, false, false, true, true, false, false, false] : List Bool).getD k false
def rdOk (k : Nat) (v : ByteArray) : Bool := if isV k then (getW (wm k) v).isSome else if isZ k then szOk v else readB v
def rdN (k : Nat) (v : ByteArray) : Int := if isV k then (getW (wm k) v).getD 0 else 0
def rdZ (k : Nat) (v : ByteArray) : Sz := if isZ k then szVal v else if isV k then ⟨false, false, 0⟩ else ⟨false, false, readN v⟩
def rdSt (s : St) (k : Nat) (v : ByteArray) : St := setT s k (rdN k v) (rdZ k v)

set_option maxRecDepth 100000 in
set_option maxHeartbeats 4000000 in
theorem read_k (s : St) (b k : Nat) (hk : k < 18) (v : ByteArray) (w : World) (hs : v.size ≤ 1048576) (ab : Addr) (hE : BeyE ab w) (hT : ErrT w) (l0 : w.heap[b]? = some (.cells (#[.int .i64 s.sh, .int .i64 s.fl, .int .i64 s.cl, .bool s.w.a, .bool s.w.p, .int .i64 s.w.n, .bool s.h.a, .bool s.h.p, .int .i64 s.h.n, .int .i64 s.mn, .int .i64 s.mx, .int .i64 s.mt, .bool s.mr.a, .bool s.mr.p, .int .i64 s.mr.n, .int .i64 s.mb, .bool s.ml.a, .bool s.ml.p, .int .i64 s.ml.n, .int .i64 s.bo, .int .i64 s.pa, .int .i64 s.wh, .int .i64 s.al, .int .i64 s.lh, .int .i64 s.ri, .int .i64 s.dn]) 34 (0, 0))) :
    Calls Tryz.prog 106 #[.agg #[.string (nmT k), .pointer (p1T b k), .pointer (p2T b k), .int .i64 (loT k), .int .i64 (hiT k), .bool (npT k)], .string v] w fun e w' =>
      (∃ x, e = .returned x ∧ ((rdOk k v = true ∧ x = .nilIface) ∨ (rdOk k v = false ∧ FaultE ab x))) ∧ w'.heap[b]? = some (.cells (let s := rdSt s k v; #[.int .i64 s.sh, .int .i64 s.fl, .int .i64 s.cl, .bool s.w.a, .bool s.w.p, .int .i64 s.w.n, .bool s.h.a, .bool s.h.p, .int .i64 s.h.n, .int .i64 s.mn, .int .i64 s.mx, .int .i64 s.mt, .bool s.mr.a, .bool s.mr.p, .int .i64 s.mr.n, .int .i64 s.mb, .bool s.ml.a, .bool s.ml.p, .int .i64 s.ml.n, .int .i64 s.bo, .int .i64 s.pa, .int .i64 s.wh, .int .i64 s.al, .int .i64 s.lh, .int .i64 s.ri, .int .i64 s.dn]) 34 (0, 0)) ∧ w.grownBy w' (some b) := by
  rcases lt18 hk with rfl | rfl | rfl | rfl | rfl | rfl | rfl | rfl | rfl | rfl | rfl | rfl | rfl | rfl | rfl | rfl | rfl | rfl
  · exact (readW_any _ v b 0 _ _ _ (#[.int .i64 s.sh, .int .i64 s.fl, .int .i64 s.cl, .bool s.w.a, .bool s.w.p, .int .i64 s.w.n, .bool s.h.a, .bool s.h.p, .int .i64 s.h.n, .int .i64 s.mn, .int .i64 s.mx, .int .i64 s.mt, .bool s.mr.a, .bool s.mr.p, .int .i64 s.mr.n, .int .i64 s.mb, .bool s.ml.a, .bool s.ml.p, .int .i64 s.ml.n, .int .i64 s.bo, .int .i64 s.pa, .int .i64 s.wh, .int .i64 s.al, .int .i64 s.lh, .int .i64 s.ri, .int .i64 s.dn]) _ (wm 0) 3 w l0 (by simp) wordsOf_0).mono fun e w' ⟨⟨x, h1, h2⟩, h3⟩ => ⟨⟨x, h1, h2.imp id fun h => ⟨h.1, .inl h.2⟩⟩, h3⟩
  · exact (readW_any _ v b 1 _ _ _ (#[.int .i64 s.sh, .int .i64 s.fl, .int .i64 s.cl, .bool s.w.a, .bool s.w.p, .int .i64 s.w.n, .bool s.h.a, .bool s.h.p, .int .i64 s.h.n, .int .i64 s.mn, .int .i64 s.mx, .int .i64 s.mt, .bool s.mr.a, .bool s.mr.p, .int .i64 s.mr.n, .int .i64 s.mb, .bool s.ml.a, .bool s.ml.p, .int .i64 s.ml.n, .int .i64 s.bo, .int .i64 s.pa, .int .i64 s.wh, .int .i64 s.al, .int .i64 s.lh, .int .i64 s.ri, .int .i64 s.dn]) _ (wm 1) 3 w l0 (by simp) wordsOf_1).mono fun e w' ⟨⟨x, h1, h2⟩, h3⟩ => ⟨⟨x, h1, h2.imp id fun h => ⟨h.1, .inl h.2⟩⟩, h3⟩
  · exact (readW_any _ v b 2 _ _ _ (#[.int .i64 s.sh, .int .i64 s.fl, .int .i64 s.cl, .bool s.w.a, .bool s.w.p, .int .i64 s.w.n, .bool s.h.a, .bool s.h.p, .int .i64 s.h.n, .int .i64 s.mn, .int .i64 s.mx, .int .i64 s.mt, .bool s.mr.a, .bool s.mr.p, .int .i64 s.mr.n, .int .i64 s.mb, .bool s.ml.a, .bool s.ml.p, .int .i64 s.ml.n, .int .i64 s.bo, .int .i64 s.pa, .int .i64 s.wh, .int .i64 s.al, .int .i64 s.lh, .int .i64 s.ri, .int .i64 s.dn]) _ (wm 2) 4 w l0 (by simp) wordsOf_2).mono fun e w' ⟨⟨x, h1, h2⟩, h3⟩ => ⟨⟨x, h1, h2.imp id fun h => ⟨h.1, .inl h.2⟩⟩, h3⟩
  · exact readZ_any _ v b 3 _ _ _ (#[.int .i64 s.sh, .int .i64 s.fl, .int .i64 s.cl, .bool s.w.a, .bool s.w.p, .int .i64 s.w.n, .bool s.h.a, .bool s.h.p, .int .i64 s.h.n, .int .i64 s.mn, .int .i64 s.mx, .int .i64 s.mt, .bool s.mr.a, .bool s.mr.p, .int .i64 s.mr.n, .int .i64 s.mb, .bool s.ml.a, .bool s.ml.p, .int .i64 s.ml.n, .int .i64 s.bo, .int .i64 s.pa, .int .i64 s.wh, .int .i64 s.al, .int .i64 s.lh, .int .i64 s.ri, .int .i64 s.dn]) _ w hs ab hE hT l0 (by simp) wordsOf_3
  · exact readZ_any _ v b 6 _ _ _ (#[.int .i64 s.sh, .int .i64 s.fl, .int .i64 s.cl, .bool s.w.a, .bool s.w.p, .int .i64 s.w.n, .bool s.h.a, .bool s.h.p, .int .i64 s.h.n, .int .i64 s.mn, .int .i64 s.mx, .int .i64 s.mt, .bool s.mr.a, .bool s.mr.p, .int .i64 s.mr.n, .int .i64 s.mb, .bool s.ml.a, .bool s.ml.p, .int .i64 s.ml.n, .int .i64 s.bo, .int .i64 s.pa, .int .i64 s.wh, .int .i64 s.al, .int .i64 s.lh, .int .i64 s.ri, .int .i64 s.dn]) _ w hs ab hE hT l0 (by simp) wordsOf_4
  · exact (readL_any _ v b 9 _ _ _ (#[.int .i64 s.sh, .int .i64 s.fl, .int .i64 s.cl, .bool s.w.a, .bool s.w.p, .int .i64 s.w.n, .bool s.h.a, .bool s.h.p, .int .i64 s.h.n, .int .i64 s.mn, .int .i64 s.mx, .int .i64 s.mt, .bool s.mr.a, .bool s.mr.p, .int .i64 s.mr.n, .int .i64 s.mb, .bool s.ml.a, .bool s.ml.p, .int .i64 s.ml.n, .int .i64 s.bo, .int .i64 s.pa, .int .i64 s.wh, .int .i64 s.al, .int .i64 s.lh, .int .i64 s.ri, .int .i64 s.dn]) _ w hs l0 (by simp) wordsOf_5).mono fun e w' ⟨⟨x, h1, h2⟩, h3⟩ => ⟨⟨x, h1, h2.imp id fun h => ⟨h.1, .inl h.2⟩⟩, h3⟩
  · exact (readL_any _ v b 10 _ _ _ (#[.int .i64 s.sh, .int .i64 s.fl, .int .i64 s.cl, .bool s.w.a, .bool s.w.p, .int .i64 s.w.n, .bool s.h.a, .bool s.h.p, .int .i64 s.h.n, .int .i64 s.mn, .int .i64 s.mx, .int .i64 s.mt, .bool s.mr.a, .bool s.mr.p, .int .i64 s.mr.n, .int .i64 s.mb, .bool s.ml.a, .bool s.ml.p, .int .i64 s.ml.n, .int .i64 s.bo, .int .i64 s.pa, .int .i64 s.wh, .int .i64 s.al, .int .i64 s.lh, .int .i64 s.ri, .int .i64 s.dn]) _ w hs l0 (by simp) wordsOf_6).mono fun e w' ⟨⟨x, h1, h2⟩, h3⟩ => ⟨⟨x, h1, h2.imp id fun h => ⟨h.1, .inl h.2⟩⟩, h3⟩
  · exact (readL_any _ v b 11 _ _ _ (#[.int .i64 s.sh, .int .i64 s.fl, .int .i64 s.cl, .bool s.w.a, .bool s.w.p, .int .i64 s.w.n, .bool s.h.a, .bool s.h.p, .int .i64 s.h.n, .int .i64 s.mn, .int .i64 s.mx, .int .i64 s.mt, .bool s.mr.a, .bool s.mr.p, .int .i64 s.mr.n, .int .i64 s.mb, .bool s.ml.a, .bool s.ml.p, .int .i64 s.ml.n, .int .i64 s.bo, .int .i64 s.pa, .int .i64 s.wh, .int .i64 s.al, .int .i64 s.lh, .int .i64 s.ri, .int .i64 s.dn]) _ w hs l0 (by simp) wordsOf_7).mono fun e w' ⟨⟨x, h1, h2⟩, h3⟩ => ⟨⟨x, h1, h2.imp id fun h => ⟨h.1, .inl h.2⟩⟩, h3⟩
  · exact readZ_any _ v b 12 _ _ _ (#[.int .i64 s.sh, .int .i64 s.fl, .int .i64 s.cl, .bool s.w.a, .bool s.w.p, .int .i64 s.w.n, .bool s.h.a, .bool s.h.p, .int .i64 s.h.n, .int .i64 s.mn, .int .i64 s.mx, .int .i64 s.mt, .bool s.mr.a, .bool s.mr.p, .int .i64 s.mr.n, .int .i64 s.mb, .bool s.ml.a, .bool s.ml.p, .int .i64 s.ml.n, .int .i64 s.bo, .int .i64 s.pa, .int .i64 s.wh, .int .i64 s.al, .int .i64 s.lh, .int .i64 s.ri, .int .i64 s.dn]) _ w hs ab hE hT l0 (by simp) wordsOf_8
  · exact (readL_any _ v b 15 _ _ _ (#[.int .i64 s.sh, .int .i64 s.fl, .int .i64 s.cl, .bool s.w.a, .bool s.w.p, .int .i64 s.w.n, .bool s.h.a, .bool s.h.p, .int .i64 s.h.n, .int .i64 s.mn, .int .i64 s.mx, .int .i64 s.mt, .bool s.mr.a, .bool s.mr.p, .int .i64 s.mr.n, .int .i64 s.mb, .bool s.ml.a, .bool s.ml.p, .int .i64 s.ml.n, .int .i64 s.bo, .int .i64 s.pa, .int .i64 s.wh, .int .i64 s.al, .int .i64 s.lh, .int .i64 s.ri, .int .i64 s.dn]) _ w hs l0 (by simp) wordsOf_9).mono fun e w' ⟨⟨x, h1, h2⟩, h3⟩ => ⟨⟨x, h1, h2.imp id fun h => ⟨h.1, .inl h.2⟩⟩, h3⟩
  · exact readZ_any _ v b 16 _ _ _ (#[.int .i64 s.sh, .int .i64 s.fl, .int .i64 s.cl, .bool s.w.a, .bool s.w.p, .int .i64 s.w.n, .bool s.h.a, .bool s.h.p, .int .i64 s.h.n, .int .i64 s.mn, .int .i64 s.mx, .int .i64 s.mt, .bool s.mr.a, .bool s.mr.p, .int .i64 s.mr.n, .int .i64 s.mb, .bool s.ml.a, .bool s.ml.p, .int .i64 s.ml.n, .int .i64 s.bo, .int .i64 s.pa, .int .i64 s.wh, .int .i64 s.al, .int .i64 s.lh, .int .i64 s.ri, .int .i64 s.dn]) _ w hs ab hE hT l0 (by simp) wordsOf_10
  · exact (readL_any _ v b 19 _ _ _ (#[.int .i64 s.sh, .int .i64 s.fl, .int .i64 s.cl, .bool s.w.a, .bool s.w.p, .int .i64 s.w.n, .bool s.h.a, .bool s.h.p, .int .i64 s.h.n, .int .i64 s.mn, .int .i64 s.mx, .int .i64 s.mt, .bool s.mr.a, .bool s.mr.p, .int .i64 s.mr.n, .int .i64 s.mb, .bool s.ml.a, .bool s.ml.p, .int .i64 s.ml.n, .int .i64 s.bo, .int .i64 s.pa, .int .i64 s.wh, .int .i64 s.al, .int .i64 s.lh, .int .i64 s.ri, .int .i64 s.dn]) _ w hs l0 (by simp) wordsOf_11).mono fun e w' ⟨⟨x, h1, h2⟩, h3⟩ => ⟨⟨x, h1, h2.imp id fun h => ⟨h.1, .inl h.2⟩⟩, h3⟩
  · exact (readL_any _ v b 20 _ _ _ (#[.int .i64 s.sh, .int .i64 s.fl, .int .i64 s.cl, .bool s.w.a, .bool s.w.p, .int .i64 s.w.n, .bool s.h.a, .bool s.h.p, .int .i64 s.h.n, .int .i64 s.mn, .int .i64 s.mx, .int .i64 s.mt, .bool s.mr.a, .bool s.mr.p, .int .i64 s.mr.n, .int .i64 s.mb, .bool s.ml.a, .bool s.ml.p, .int .i64 s.ml.n, .int .i64 s.bo, .int .i64 s.pa, .int .i64 s.wh, .int .i64 s.al, .int .i64 s.lh, .int .i64 s.ri, .int .i64 s.dn]) _ w hs l0 (by simp) wordsOf_12).mono fun e w' ⟨⟨x, h1, h2⟩, h3⟩ => ⟨⟨x, h1, h2.imp id fun h => ⟨h.1, .inl h.2⟩⟩, h3⟩
  · exact (readW_any _ v b 21 _ _ _ (#[.int .i64 s.sh, .int .i64 s.fl, .int .i64 s.cl, .bool s.w.a, .bool s.w.p, .int .i64 s.w.n, .bool s.h.a, .bool s.h.p, .int .i64 s.h.n, .int .i64 s.mn, .int .i64 s.mx, .int .i64 s.mt, .bool s.mr.a, .bool s.mr.p, .int .i64 s.mr.n, .int .i64 s.mb, .bool s.ml.a, .bool s.ml.p, .int .i64 s.ml.n, .int .i64 s.bo, .int .i64 s.pa, .int .i64 s.wh, .int .i64 s.al, .int .i64 s.lh, .int .i64 s.ri, .int .i64 s.dn]) _ (wm 13) 5 w l0 (by simp) wordsOf_13).mono fun e w' ⟨⟨x, h1, h2⟩, h3⟩ => ⟨⟨x, h1, h2.imp id fun h => ⟨h.1, .inl h.2⟩⟩, h3⟩
  · exact (readW_any _ v b 22 _ _ _ (#[.int .i64 s.sh, .int .i64 s.fl, .int .i64 s.cl, .bool s.w.a, .bool s.w.p, .int .i64 s.w.n, .bool s.h.a, .bool s.h.p, .int .i64 s.h.n, .int .i64 s.mn, .int .i64 s.mx, .int .i64 s.mt, .bool s.mr.a, .bool s.mr.p, .int .i64 s.mr.n, .int .i64 s.mb, .bool s.ml.a, .bool s.ml.p, .int .i64 s.ml.n, .int .i64 s.bo, .int .i64 s.pa, .int .i64 s.wh, .int .i64 s.al, .int .i64 s.lh, .int .i64 s.ri, .int .i64 s.dn]) _ (wm 14) 3 w l0 (by simp) wordsOf_14).mono fun e w' ⟨⟨x, h1, h2⟩, h3⟩ => ⟨⟨x, h1, h2.imp id fun h => ⟨h.1, .inl h.2⟩⟩, h3⟩
  · exact (readL_any _ v b 23 _ _ _ (#[.int .i64 s.sh, .int .i64 s.fl, .int .i64 s.cl, .bool s.w.a, .bool s.w.p, .int .i64 s.w.n, .bool s.h.a, .bool s.h.p, .int .i64 s.h.n, .int .i64 s.mn, .int .i64 s.mx, .int .i64 s.mt, .bool s.mr.a, .bool s.mr.p, .int .i64 s.mr.n, .int .i64 s.mb, .bool s.ml.a, .bool s.ml.p, .int .i64 s.ml.n, .int .i64 s.bo, .int .i64 s.pa, .int .i64 s.wh, .int .i64 s.al, .int .i64 s.lh, .int .i64 s.ri, .int .i64 s.dn]) _ w hs l0 (by simp) wordsOf_15).mono fun e w' ⟨⟨x, h1, h2⟩, h3⟩ => ⟨⟨x, h1, h2.imp id fun h => ⟨h.1, .inl h.2⟩⟩, h3⟩
  · exact (readL_any _ v b 24 _ _ _ (#[.int .i64 s.sh, .int .i64 s.fl, .int .i64 s.cl, .bool s.w.a, .bool s.w.p, .int .i64 s.w.n, .bool s.h.a, .bool s.h.p, .int .i64 s.h.n, .int .i64 s.mn, .int .i64 s.mx, .int .i64 s.mt, .bool s.mr.a, .bool s.mr.p, .int .i64 s.mr.n, .int .i64 s.mb, .bool s.ml.a, .bool s.ml.p, .int .i64 s.ml.n, .int .i64 s.bo, .int .i64 s.pa, .int .i64 s.wh, .int .i64 s.al, .int .i64 s.lh, .int .i64 s.ri, .int .i64 s.dn]) _ w hs l0 (by simp) wordsOf_16).mono fun e w' ⟨⟨x, h1, h2⟩, h3⟩ => ⟨⟨x, h1, h2.imp id fun h => ⟨h.1, .inl h.2⟩⟩, h3⟩
  · exact (readL_any _ v b 25 _ _ _ (#[.int .i64 s.sh, .int .i64 s.fl, .int .i64 s.cl, .bool s.w.a, .bool s.w.p, .int .i64 s.w.n, .bool s.h.a, .bool s.h.p, .int .i64 s.h.n, .int .i64 s.mn, .int .i64 s.mx, .int .i64 s.mt, .bool s.mr.a, .bool s.mr.p, .int .i64 s.mr.n, .int .i64 s.mb, .bool s.ml.a, .bool s.ml.p, .int .i64 s.ml.n, .int .i64 s.bo, .int .i64 s.pa, .int .i64 s.wh, .int .i64 s.al, .int .i64 s.lh, .int .i64 s.ri, .int .i64 s.dn]) _ w hs l0 (by simp) wordsOf_17).mono fun e w' ⟨⟨x, h1, h2⟩, h3⟩ => ⟨⟨x, h1, h2.imp id fun h => ⟨h.1, .inl h.2⟩⟩, h3⟩
end Go.Proofs.YtddnphgpdnedbaaGreatDoor

namespace Go.Proofs.YtddnphgpdnedbaaGreatDoor
open Go.ChangeShapes Go.WideShapes Go.ChangeAt Go.RowKit
set_option linter.unusedVariables false

def nmC (k : Nat) : ByteArray := nmT k ++ ⟨#[58]⟩
/-- The thing is named at the front and ended; its value; what is behind. -/
def frB (k : Nat) (t : ByteArray) : Bool := preB t (nmC k) && s_dotB (preR t (nmC k))
def frV (k : Nat) (t : ByteArray) : ByteArray := s_wholeOf (preR t (nmC k))
def frR (k : Nat) (t : ByteArray) : ByteArray := s_partOf (preR t (nmC k))
def UnsE (au : Addr) (w : World) : Prop := w.cell? ⟨0, 0, none⟩ = some (.iface 209 (.pointer (some au)))
theorem UnsE.below {au : Addr} {w w' : World} (h : UnsE au w) (hb : Below w.heap.size w w') : UnsE au w' := (hb.cell (p := ⟨0, 0, none⟩) (World.block_lt_of_cell? _ ⟨0, 0, none⟩ h)).trans h
theorem nm_size (k : Nat) : (nmT k).size ≤ 30 := by
  have h : ∀ (l : List ByteArray), (l.all fun x => decide (x.size ≤ 30)) = true → ∀ i, (l.getD i ByteArray.empty).size ≤ 30 := by
    intro l
    induction l with
    | nil => intro _ i; show (ByteArray.empty).size ≤ 30; decide
    | cons x l ih =>
      intro h i
      cases i with
      | zero => simp at h; exact h.1
      | succ i => simp only [List.all_cons, Bool.and_eq_true] at h; exact ih h.2 i
  exact h _ (by decide) k
theorem preR_size (s p : ByteArray) : (preR s p).size ≤ s.size := by
  unfold preR
  split
  · rw [ByteArray.size_extract]; omega
  · exact Nat.le_refl _

set_option maxRecDepth 100000 in
set_option maxHeartbeats 4000000 in
theorem front_unsaid (b k : Nat) (t : ByteArray) (w : World) (ht : t.size ≤ 1048576) (au : Addr) (hU : UnsE au w) (h : frB k t = false) :
    Calls Tryz.prog 94 #[.agg (#[.string (nmT k), .pointer (p1T b k), .pointer (p2T b k), .int .i64 (loT k), .int .i64 (hiT k), .bool (npT k)]), .string t] w fun e w' =>
      ∃ q : Nat, e = .returned (.tuple #[.string ⟨#[]⟩, .iface 136 (.pointer (some ⟨q, 0, none⟩))]) ∧ w'.cell? ⟨q, 1, none⟩ = some (.iface 209 (.pointer (some au))) ∧ Below w.heap.size w w' := by
  have hn := nm_size k
  have CP := fun W => cutPre_any t (nmC k) W ht (by unfold nmC; rw [ByteArray.size_append]; show _ + 1 ≤ _; omega)
  have CT := fun W => s_cut_any (preR t (nmC k)) W (Nat.le_trans (preR_size _ _) ht)
  unfold frB at h
  unfold nmC at *
  have lte : 0 < w.heap.size := World.block_lt_of_cell? _ ⟨0, 0, none⟩ hU
  have hU' : w.cell? ⟨0, 0, none⟩ = some (.iface 209 (.pointer (some au))) := hU
  have hn1 : ¬ 0 = w.heap.size := by omega
  generalize preR t (nmT k ++ ⟨#[58]⟩) = sd at CP CT h
  generalize s_wholeOf sd = hd at CT
  generalize s_partOf sd = tl at CT
  cases hp : preB t (nmT k ++ ⟨#[58]⟩)
  · rw [hp] at CP
    clear h hU
    generalize s_dotB sd = en at CT
    go_enter Tryz.func94, Tryz.ntmps94
    go_wp2_with (first | (go_at_call 53; refine (CP _).mono ?_; rintro e w1 ⟨rfl, hw⟩; have hw := hw.symm; subst hw) | (go_at_call 105; refine (CT _).mono ?_; rintro e w1 ⟨rfl, nn, rfl⟩))
    go_region
    all_goals
      go_wp2
      go_ret2
      refine ⟨_, rfl, ?_, ?_⟩
      · exact (lies_cell (heap_at _ _ (w.heap.size + 1) (by show (w.alloc _).heap.size = _; simp)) 1).trans rfl
      · repeat (first | exact Below.refl _ _ | refine rd_drew ?_ _ | refine Below.drew ?_ | refine Below.setCell ?_ (by first | (simp; done) | (simp; omega)) _ | refine Below.alloc ?_ (by first | (simp; done) | (simp; omega)) _)
  · rw [hp] at CP h
    have he : s_dotB sd = false := by simpa using h
    rw [he] at CT
    clear h hU
    go_enter Tryz.func94, Tryz.ntmps94
    go_wp2_with (first | (go_at_call 53; refine (CP _).mono ?_; rintro e w1 ⟨rfl, hw⟩; have hw := hw.symm; subst hw) | (go_at_call 105; refine (CT _).mono ?_; rintro e w1 ⟨rfl, nn, rfl⟩))
    go_region
    all_goals
      go_wp2
      go_ret2
      refine ⟨_, rfl, ?_, ?_⟩
      · exact (lies_cell (heap_at _ _ (w.heap.size + 1) (by show (w.alloc _).heap.size = _; simp)) 1).trans rfl
      · repeat (first | exact Below.refl _ _ | refine rd_drew ?_ _ | refine Below.drew ?_ | refine Below.setCell ?_ (by first | (simp; done) | (simp; omega)) _ | refine Below.alloc ?_ (by first | (simp; done) | (simp; omega)) _)

set_option maxRecDepth 100000 in
set_option maxHeartbeats 4000000 in
theorem front_said (s : St) (b k : Nat) (hk : k < 18) (t : ByteArray) (w : World) (ht : t.size ≤ 1048576) (ab : Addr) (hE : BeyE ab w) (hT : ErrT w) (l0 : w.heap[b]? = some (.cells (#[.int .i64 s.sh, .int .i64 s.fl, .int .i64 s.cl, .bool s.w.a, .bool s.w.p, .int .i64 s.w.n, .bool s.h.a, .bool s.h.p, .int .i64 s.h.n, .int .i64 s.mn, .int .i64 s.mx, .int .i64 s.mt, .bool s.mr.a, .bool s.mr.p, .int .i64 s.mr.n, .int .i64 s.mb, .bool s.ml.a, .bool s.ml.p, .int .i64 s.ml.n, .int .i64 s.bo, .int .i64 s.pa, .int .i64 s.wh, .int .i64 s.al, .int .i64 s.lh, .int .i64 s.ri, .int .i64 s.dn]) 34 (0, 0))) (h : frB k t = true) :
    Calls Tryz.prog 94 #[.agg (#[.string (nmT k), .pointer (p1T b k), .pointer (p2T b k), .int .i64 (loT k), .int .i64 (hiT k), .bool (npT k)]), .string t] w fun e w' =>
      ((rdOk k (frV k t) = true ∧ e = .returned (.tuple #[.string (frR k t), .nilIface])) ∨ (rdOk k (frV k t) = false ∧ ∃ (q : Nat) (x : Value), e = .returned (.tuple #[.string ⟨#[]⟩, .iface 136 (.pointer (some ⟨q, 0, none⟩))]) ∧ w'.cell? ⟨q, 1, none⟩ = some x ∧ FaultE ab x)) ∧
        w'.heap[b]? = some (.cells (let s := rdSt s k (frV k t); #[.int .i64 s.sh, .int .i64 s.fl, .int .i64 s.cl, .bool s.w.a, .bool s.w.p, .int .i64 s.w.n, .bool s.h.a, .bool s.h.p, .int .i64 s.h.n, .int .i64 s.mn, .int .i64 s.mx, .int .i64 s.mt, .bool s.mr.a, .bool s.mr.p, .int .i64 s.mr.n, .int .i64 s.mb, .bool s.ml.a, .bool s.ml.p, .int .i64 s.ml.n, .int .i64 s.bo, .int .i64 s.pa, .int .i64 s.wh, .int .i64 s.al, .int .i64 s.lh, .int .i64 s.ri, .int .i64 s.dn]) 34 (0, 0)) ∧ w.grownBy w' (some b) := by
  have hn := nm_size k
  have CP := fun W => cutPre_any t (nmC k) W ht (by unfold nmC; rw [ByteArray.size_append]; show _ + 1 ≤ _; omega)
  have CT := fun W => s_cut_any (preR t (nmC k)) W (Nat.le_trans (preR_size _ _) ht)
  have hv : (frV k t).size ≤ 1048576 := Nat.le_trans (s_whole_size _) (Nat.le_trans (preR_size _ _) ht)
  have RK := fun (W : World) (hb : Below w.heap.size w W) => read_k s b k hk (frV k t) W hv ab (hE.below hb) (hT.below hb) (below_lies hb l0 (lies_lt l0))
  have ltb := lies_lt l0
  unfold frB at h
  rw [Bool.and_eq_true] at h
  rw [h.1] at CP
  rw [h.2] at CT
  have e1 : s_wholeOf (preR t (nmC k)) = frV k t := rfl
  have e2 : s_partOf (preR t (nmC k)) = frR k t := rfl
  rw [e1, e2] at CT
  unfold nmC at CP CT
  generalize preR t (nmT k ++ ⟨#[58]⟩) = sd at CP CT
  generalize frR k t = rr at CT ⊢
  generalize frV k t = vv at CT RK ⊢
  generalize rdSt s k vv = s2 at RK ⊢
  clear h hE hT l0 e1 e2 hv
  cases hok : rdOk k vv
  · rw [hok] at RK
    go_enter Tryz.func94, Tryz.ntmps94
    go_wp2_with (first | (go_at_call 53; refine (CP _).mono ?_; rintro e w1 ⟨rfl, hw⟩; have hw := hw.symm; subst hw) | (go_at_call 105; refine (CT _).mono ?_; rintro e w1 ⟨rfl, nn, rfl⟩))
    refine (RK _ (rd_drew ((Below.refl _ _).alloc (Nat.le_refl _) _) _)).mono ?_
    rintro e w1 ⟨⟨x, rfl, hx⟩, l1, g1⟩
    have hx : FaultE ab x := by rcases hx with h | h; cases h.1; exact h.2
    have cN : w1.cell? ⟨w.heap.size, 0, none⟩ = some (.string (nmT k)) := g1.cell (a := ⟨w.heap.size, 0, none⟩) (by simp) (by simp; omega)
    have zz : w.heap.size < w1.heap.size := by have := g1.size; simp at this; omega
    have gw : w.grownBy w1 (some b) := ⟨g1.os, g1.tape, g1.output, by omega, fun j hj hne => (g1.block j (by simp; omega) hne).trans (_root_.Go.heap_alloc_old w _ hj)⟩
    have hxi : ∃ et ev, x = .iface et ev := by rcases hx with ⟨p, rfl⟩ | rfl; exact ⟨_, _, rfl⟩; exact ⟨_, _, rfl⟩
    obtain ⟨et, ev, rfl⟩ := hxi
    clear g1 RK CP CT
    go_wp2
    go_region
    all_goals
      go_wp2
      go_ret2
      refine ⟨.inr ⟨by trivial, _, _, rfl, (lies_cell (heap_at _ _ w1.heap.size (by rfl)) 1).trans rfl, hx⟩, ?_, ?_⟩
      · exact heap_in l1
      · exact ⟨gw.os, gw.tape, gw.output, Nat.le_trans gw.size (by simp), fun j hj hne => (_root_.Go.heap_alloc_old _ _ (Nat.lt_of_lt_of_le hj gw.size)).trans (gw.block j hj hne)⟩
  · rw [hok] at RK
    go_enter Tryz.func94, Tryz.ntmps94
    go_wp2_with (first | (go_at_call 53; refine (CP _).mono ?_; rintro e w1 ⟨rfl, hw⟩; have hw := hw.symm; subst hw) | (go_at_call 105; refine (CT _).mono ?_; rintro e w1 ⟨rfl, nn, rfl⟩))
    refine (RK _ (rd_drew ((Below.refl _ _).alloc (Nat.le_refl _) _) _)).mono ?_
    rintro e w1 ⟨⟨x, rfl, hx⟩, l1, g1⟩
    obtain rfl : x = .nilIface := by rcases hx with h | h; exact h.2; cases h.1
    have zz : w.heap.size < w1.heap.size := by have := g1.size; simp at this; omega
    have gw : w.grownBy w1 (some b) := ⟨g1.os, g1.tape, g1.output, by omega, fun j hj hne => (g1.block j (by simp; omega) hne).trans (_root_.Go.heap_alloc_old w _ hj)⟩
    clear g1 RK CP CT
    go_wp2
    go_ret2
    exact ⟨.inl ⟨by trivial, rfl⟩, l1, gw⟩
end Go.Proofs.YtddnphgpdnedbaaGreatDoor
