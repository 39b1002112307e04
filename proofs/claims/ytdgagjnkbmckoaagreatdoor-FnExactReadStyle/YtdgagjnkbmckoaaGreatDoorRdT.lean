/-
  The program's reader of one thing: what is read goes into the thing's place in the style.
-/
import Derived.Test.YtdgagjnkbmckoaaGreatDoorRdW
import Derived.Deep.MidRow
import Derived.Deep.RegionHeld3
namespace Go.Proofs.YtdgagjnkbmckoaaGreatDoor
open Go.ChangeShapes Go.WideShapes Go.ChangeAt Go.RowKit
set_option linter.unusedVariables false

theorem setCells_row {P : Program} {w : World} {g o : Nat} {vs : List Value} {c : Array Value} {t : TypeId} (hg : w.heap[g]? = some (.cells c t (0, 0))) (hl : o + vs.length ≤ c.size) (h1 : ∀ v ∈ vs, v.oneCell' = true) :
    w.setCells g o vs = w.setRow g (c.toList.take o ++ vs ++ c.toList.drop (o + vs.length)).toArray := by
  have a1 := run_storeCells_at (P := P) g o t vs 0 c w hg (by simpa using hl) h1
  have hsz : ∀ j, j < vs.length → o + j < c.size := fun j hj => by omega
  have a2 := run_storeCells_cells (P := P) g o vs 0 w (fun j hj => by rw [Nat.add_zero, lies_cell hg, Array.getElem?_eq_getElem (hsz j hj)]; rfl) (fun j hj => by rw [World.frozen?, hg]; simp) h1
  simp only [Nat.add_zero] at a1 a2
  rw [a1] at a2
  injection a2 with _ h
  exact h.symm
/-- What a reader leaves: the style's block with some cells set, all older memory else as it was. -/
theorem put_cells {P : Program} {w w1 : World} {g o : Nat} {vs : List Value} {c : Array Value} {t : TypeId} (hb : Below w.heap.size w w1) (hg : w.heap[g]? = some (.cells c t (0, 0))) (hl : o + vs.length ≤ c.size) (h1 : ∀ v ∈ vs, v.oneCell' = true) :
    (w1.setCells g o vs).heap[g]? = some (.cells (putA c o vs) t (0, 0)) ∧ w.grownBy (w1.setCells g o vs) (some g) := by
  have hg1 := below_lies hb hg (lies_lt hg)
  rw [setCells_row (P := P) hg1 hl h1]
  refine ⟨?_, ?_⟩
  · rw [putA, putL_eq vs c.toList o (by simpa using hl)]
    exact setRow_heap w1 g c _ t _ hg1
  · have p := put_setRow w1 g (c.toList.take o ++ vs ++ c.toList.drop (o + vs.length)).toArray
    exact ⟨p.os.trans hb.os, p.tape.trans hb.tape, p.output.trans hb.output, by rw [p.size]; exact hb.size, fun k hk hne => (p.other k (by simpa using hne)).trans (hb.block k hk)⟩
theorem mapNil (w : World) : (binOp .neq 94 (.map none) (.map none)).run Tryz.prog w = .ok (.bool false) w := by kernel_rfl
theorem mapSome (r : Nat) (w : World) : (binOp .neq 94 (.map (some r)) (.map none)).run Tryz.prog w = .ok (.bool true) w := by kernel_rfl
theorem grown_drewN' {w w1 : World} {g : Nat} (h : w.grownBy w1 (some g)) (n : Nat) : w.grownBy (w1.drewN n) (some g) := ⟨h.os, h.tape, h.output, h.size, h.block⟩

set_option maxRecDepth 100000 in
set_option maxHeartbeats 4000000 in
theorem readZ_any (nm v : ByteArray) (g o : Nat) (lo hi : Int) (np : Bool) (c : Array Value) (t : TypeId) (w : World) (hs : v.size ≤ 1048576) (ab : Addr) (hE : BeyE ab w) (hT : ErrT w)
    (hg : w.heap[g]? = some (.cells c t (0, 0))) (hl : o + 3 ≤ c.size)
    (WO : ∀ w, Calls Tryz.prog 48 #[.string nm] w fun e w' => e = .returned (.map none) ∧ w' = w) :
    Calls Tryz.prog 36 #[.agg #[.string nm, .pointer none, .pointer (some ⟨g, o, none⟩), .int .i64 lo, .int .i64 hi, .bool np], .string v] w fun e w' =>
      (∃ x, e = .returned x ∧ ((szOk v = true ∧ x = .nilIface) ∨ (szOk v = false ∧ FaultE ab x))) ∧ w'.heap[g]? = some (.cells (putA c o [.bool (szVal v).a, .bool (szVal v).p, .int .i64 (szVal v).n]) t (0, 0)) ∧ w.grownBy w' (some g) := by
  have RS := fun (W : World) (hb : Below w.heap.size w W) => readSize_any v W hs ab (hE.below hb) (hT.below hb)
  generalize szVal v = z at RS ⊢
  generalize szOk v = ok at RS ⊢
  have ltg := lies_lt hg
  have hne : ¬ g = w.heap.size := by omega
  have hne' : ¬ w.heap.size = g := by omega
  have HG : Hid (w.heap[g]? = some (.cells c t (0, 0))) := hg
  clear hE hT hg
  go_enter Tryz.func36, Tryz.ntmps36
  go_wp2_with (go_at_call 48; refine (WO _).mono ?_; rintro e w1 ⟨rfl, hw⟩; have hw := hw.symm; subst hw)
  go_region_held3 (fun w' => w'.cell? ⟨w.heap.size, 2, none⟩ = some (.pointer (some ⟨g, o, none⟩)))
    (first | go_keep | exact x2)
    ((first
      | (go_at_call 49; refine (RS _ (by first | exact ((Below.refl _ _).alloc (Nat.le_refl _) _).drew)).mono ?_; rintro e w1 ⟨⟨x, rfl, hx⟩, hb⟩; have hb' : Below (w.heap.size + 1) (w.alloc (.cells #[.string nm, .pointer none, .pointer (some ⟨g, o, none⟩), .int .i64 lo, .int .i64 hi, .bool np] 59)) w1 := ⟨hb.os, hb.tape, hb.output, hb.size, fun k hk => hb.block k (by simp; omega)⟩; have x2 : w1.cell? ⟨w.heap.size, 2, none⟩ = some (.pointer (some ⟨g, o, none⟩)) := (hb'.cell (p := ⟨w.heap.size, 2, none⟩) (by simp)).trans (by simp); have hg1 : w1.heap[g]? = some (.cells c t (0, 0)) := below_lies hb' (heap_in HG.out) (by omega); obtain ⟨u0, hu0⟩ : ∃ u, w1.cell? ⟨g, o, none⟩ = some u := ⟨_, (lies_cell hg1 _).trans (Array.getElem?_eq_getElem (by omega))⟩; have hf0 : w1.frozen? ⟨g, o, none⟩ = false := (by rw [World.frozen?, hg1]; simp); obtain ⟨u1, hu1⟩ : ∃ u, w1.cell? ⟨g, o + 1, none⟩ = some u := ⟨_, (lies_cell hg1 _).trans (Array.getElem?_eq_getElem (by omega))⟩; have hf1 : w1.frozen? ⟨g, o + 1, none⟩ = false := (by rw [World.frozen?, hg1]; simp); obtain ⟨u2, hu2⟩ : ∃ u, w1.cell? ⟨g, o + 2, none⟩ = some u := ⟨_, (lies_cell hg1 _).trans (Array.getElem?_eq_getElem (by omega))⟩; have hf2 : w1.frozen? ⟨g, o + 2, none⟩ = false := (by rw [World.frozen?, hg1]; simp))
      | fail))
  have bw1 : Below w.heap.size w w1 := ((Below.refl _ _).alloc (Nat.le_refl _) _).trans (hb'.mono (by omega))
  have R : (((w1.setCell ⟨g, o, none⟩ (.bool z.a)).setCell ⟨g, o + 1, none⟩ (.bool z.p)).setCell ⟨g, o + 2, none⟩ (.int .i64 z.n)).heap[g]? = some (.cells (putA c o [.bool z.a, .bool z.p, .int .i64 z.n]) t (0, 0)) ∧ w.grownBy (((w1.setCell ⟨g, o, none⟩ (.bool z.a)).setCell ⟨g, o + 1, none⟩ (.bool z.p)).setCell ⟨g, o + 2, none⟩ (.int .i64 z.n)) (some g) :=
    put_cells (P := Tryz.prog) (vs := [.bool z.a, .bool z.p, .int .i64 z.n]) bw1 HG.out hl (by simp [Value.oneCell'])
  clear bw1 hb hb' hg1 hu0 hu1 hu2 hf0 hf1 hf2 x2 RS WO
  revert R
  generalize ((w1.setCell ⟨g, o, none⟩ (.bool z.a)).setCell ⟨g, o + 1, none⟩ (.bool z.p)).setCell ⟨g, o + 2, none⟩ (.int .i64 z.n) = w2
  intro R
  go_wp2
  go_ret
  exact ⟨⟨_, rfl, hx⟩, R.1, R.2⟩

set_option maxRecDepth 100000 in
set_option maxHeartbeats 4000000 in
theorem readL_any (nm v : ByteArray) (g o : Nat) (lo hi : Int) (np : Bool) (c : Array Value) (t : TypeId) (w : World) (hs : v.size ≤ 1048576)
    (hg : w.heap[g]? = some (.cells c t (0, 0))) (hl : o + 1 ≤ c.size)
    (WO : ∀ w, Calls Tryz.prog 48 #[.string nm] w fun e w' => e = .returned (.map none) ∧ w' = w) :
    Calls Tryz.prog 36 #[.agg #[.string nm, .pointer (some ⟨g, o, none⟩), .pointer none, .int .i64 lo, .int .i64 hi, .bool np], .string v] w fun e w' =>
      (∃ x, e = .returned x ∧ ((readB v = true ∧ x = .nilIface) ∨ (readB v = false ∧ FormE x))) ∧ w'.heap[g]? = some (.cells (putA c o [.int .i64 (readN v)]) t (0, 0)) ∧ w.grownBy w' (some g) := by
  have RS := fun (W : World) => readLength_any v W hs
  generalize readN v = z at RS ⊢
  generalize readB v = ok at RS ⊢
  have ltg := lies_lt hg
  have hne : ¬ g = w.heap.size := by omega
  have hne' : ¬ w.heap.size = g := by omega
  have HG : Hid (w.heap[g]? = some (.cells c t (0, 0))) := hg
  clear hg
  have MN := mapNil
  have MS := mapSome
  go_enter Tryz.func36, Tryz.ntmps36
  go_wp2_with (go_at_call 48; refine (WO _).mono ?_; rintro e w1 ⟨rfl, hw⟩; have hw := hw.symm; subst hw)
  go_region_held3 (fun w' => w'.cell? ⟨w.heap.size, 1, none⟩ = some (.pointer (some ⟨g, o, none⟩)))
    (first | go_keep | exact x2)
    ((first
      | (go_at_call 51; refine (RS _).mono ?_; rintro e w1 ⟨⟨x, rfl, hx⟩, hb⟩; have hb' : Below (w.heap.size + 1) (w.alloc (.cells #[.string nm, .pointer (some ⟨g, o, none⟩), .pointer none, .int .i64 lo, .int .i64 hi, .bool np] 59)) w1 := ⟨hb.os, hb.tape, hb.output, hb.size, fun k hk => hb.block k (by simp; omega)⟩; have x2 : w1.cell? ⟨w.heap.size, 1, none⟩ = some (.pointer (some ⟨g, o, none⟩)) := (hb'.cell (p := ⟨w.heap.size, 1, none⟩) (by simp)).trans (by simp); have hg1 : w1.heap[g]? = some (.cells c t (0, 0)) := below_lies hb' (heap_in HG.out) (by omega); obtain ⟨u0, hu0⟩ : ∃ u, w1.cell? ⟨g, o, none⟩ = some u := ⟨_, (lies_cell hg1 _).trans (Array.getElem?_eq_getElem (by omega))⟩; have hf0 : w1.frozen? ⟨g, o, none⟩ = false := (by rw [World.frozen?, hg1]; simp))
      | fail))
  have bw1 : Below w.heap.size w w1 := ((Below.refl _ _).alloc (Nat.le_refl _) _).trans (hb'.mono (by omega))
  have R : (w1.setCell ⟨g, o, none⟩ (.int .i64 z)).heap[g]? = some (.cells (putA c o [.int .i64 z]) t (0, 0)) ∧ w.grownBy (w1.setCell ⟨g, o, none⟩ (.int .i64 z)) (some g) :=
    put_cells (P := Tryz.prog) (vs := [.int .i64 z]) bw1 HG.out hl (by simp [Value.oneCell'])
  clear bw1 hb hb' hg1 hu0 hf0 x2 RS WO
  revert R
  generalize w1.setCell ⟨g, o, none⟩ (.int .i64 z) = w2
  intro R
  go_wp2
  go_ret
  exact ⟨⟨_, rfl, hx⟩, R.1, R.2⟩

set_option maxRecDepth 100000 in
set_option maxHeartbeats 4000000 in
theorem readW_any (nm v : ByteArray) (g o : Nat) (lo hi : Int) (np : Bool) (c : Array Value) (t : TypeId) (l : List (ByteArray × Int)) (cl : Nat) (w : World)
    (hg : w.heap[g]? = some (.cells c t (0, 0))) (hl : o + 1 ≤ c.size)
    (WO : ∀ w, Calls Tryz.prog 48 #[.string nm] w fun e w' => e = .returned (.map (some w.heap.size)) ∧ w' = w.alloc (.map (entOf l 0).toArray cl)) :
    Calls Tryz.prog 36 #[.agg #[.string nm, .pointer (some ⟨g, o, none⟩), .pointer none, .int .i64 lo, .int .i64 hi, .bool np], .string v] w fun e w' =>
      (∃ x, e = .returned x ∧ (((getW l v).isSome = true ∧ x = .nilIface) ∨ ((getW l v).isSome = false ∧ FormE x))) ∧ w'.heap[g]? = some (.cells (putA c o [.int .i64 ((getW l v).getD 0)]) t (0, 0)) ∧ w.grownBy w' (some g) := by
  have RS := fun (W : World) (h : W.heap[w.heap.size + 1]? = some (.map (entOf l 0).toArray cl)) => readWord_any (w.heap.size + 1) cl l v W h
  generalize (getW l v).getD 0 = z at RS ⊢
  generalize (getW l v).isSome = ok at RS ⊢
  have ltg := lies_lt hg
  have hne : ¬ g = w.heap.size := by omega
  have hne' : ¬ w.heap.size = g := by omega
  have HG : Hid (w.heap[g]? = some (.cells c t (0, 0))) := hg
  clear hg
  have MN := mapNil
  have MS := mapSome
  go_enter Tryz.func36, Tryz.ntmps36
  go_wp2_with (go_at_call 48; refine (WO _).mono ?_; rintro e w1 ⟨rfl, rfl⟩)
  have lm : ((w.alloc (.cells #[.string nm, .pointer (some ⟨g, o, none⟩), .pointer none, .int .i64 lo, .int .i64 hi, .bool np] 59)).alloc (.map (entOf l 0).toArray cl)).heap[w.heap.size + 1]? = some (.map (entOf l 0).toArray cl) := heap_at _ _ _ (by simp)
  have lb : ((w.alloc (.cells #[.string nm, .pointer (some ⟨g, o, none⟩), .pointer none, .int .i64 lo, .int .i64 hi, .bool np] 59)).alloc (.map (entOf l 0).toArray cl)).heap[w.heap.size]? = some (.cells #[.string nm, .pointer (some ⟨g, o, none⟩), .pointer none, .int .i64 lo, .int .i64 hi, .bool np] 59 (0, 0)) := heap_in (heap_at _ _ _ rfl)
  have lg : ((w.alloc (.cells #[.string nm, .pointer (some ⟨g, o, none⟩), .pointer none, .int .i64 lo, .int .i64 hi, .bool np] 59)).alloc (.map (entOf l 0).toArray cl)).heap[g]? = some (.cells c t (0, 0)) := heap_in (heap_in HG.out)
  have bW : Below w.heap.size w ((w.alloc (.cells #[.string nm, .pointer (some ⟨g, o, none⟩), .pointer none, .int .i64 lo, .int .i64 hi, .bool np] 59)).alloc (.map (entOf l 0).toArray cl)) := ((Below.refl _ _).alloc (Nat.le_refl _) _).alloc (by simp) _
  have zW : w.heap.size + 1 < ((w.alloc (.cells #[.string nm, .pointer (some ⟨g, o, none⟩), .pointer none, .int .i64 lo, .int .i64 hi, .bool np] 59)).alloc (.map (entOf l 0).toArray cl)).heap.size := by simp
  revert lm lb lg bW zW
  generalize ((w.alloc (.cells #[.string nm, .pointer (some ⟨g, o, none⟩), .pointer none, .int .i64 lo, .int .i64 hi, .bool np] 59)).alloc (.map (entOf l 0).toArray cl)) = W
  intro lm lb lg bW zW
  have xb : W.cell? ⟨w.heap.size, 1, none⟩ = some (.pointer (some ⟨g, o, none⟩)) := (lies_cell lb 1).trans rfl
  have R0 := RS W.drew lm
  clear RS
  go_region_held3 (fun w' => w'.cell? ⟨w.heap.size, 1, none⟩ = some (.pointer (some ⟨g, o, none⟩)))
    (first | go_keep | exact x2)
    ((first
      | (go_at_call 50; refine R0.mono ?_; rintro e w1 ⟨⟨x, rfl, hx⟩, hb⟩; have hb' : Below W.heap.size W w1 := ⟨hb.os, hb.tape, hb.output, hb.size, hb.block⟩; have x2 : w1.cell? ⟨w.heap.size, 1, none⟩ = some (.pointer (some ⟨g, o, none⟩)) := (hb'.cell (p := ⟨w.heap.size, 1, none⟩) (by show w.heap.size < _; omega)).trans xb; have hg1 : w1.heap[g]? = some (.cells c t (0, 0)) := below_lies hb' lg (by omega); obtain ⟨u0, hu0⟩ : ∃ u, w1.cell? ⟨g, o, none⟩ = some u := ⟨_, (lies_cell hg1 _).trans (Array.getElem?_eq_getElem (by omega))⟩; have hf0 : w1.frozen? ⟨g, o, none⟩ = false := (by rw [World.frozen?, hg1]; simp))
      | fail))
  have bw1 : Below w.heap.size w w1 := bW.trans (hb'.mono (by omega))
  have R : (w1.setCell ⟨g, o, none⟩ (.int .i64 z)).heap[g]? = some (.cells (putA c o [.int .i64 z]) t (0, 0)) ∧ w.grownBy (w1.setCell ⟨g, o, none⟩ (.int .i64 z)) (some g) :=
    put_cells (P := Tryz.prog) (vs := [.int .i64 z]) bw1 HG.out hl (by simp [Value.oneCell'])
  clear bw1 hb hb' hg1 hu0 hf0 x2 WO R0 lm lb lg bW xb
  revert R
  generalize w1.setCell ⟨g, o, none⟩ (.int .i64 z) = w2
  intro R
  go_wp2
  go_ret
  exact ⟨⟨_, rfl, hx⟩, R.1, R.2⟩
end Go.Proofs.YtdgagjnkbmckoaaGreatDoor
