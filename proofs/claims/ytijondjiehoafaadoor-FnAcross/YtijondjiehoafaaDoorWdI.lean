/-
  The program's functions of chapter 6 over a style.
-/
import Derived.Test.YtijondjiehoafaaDoorWdS
import Derived.Test.YtijondjiehoafaaDoorStyG
import Derived.Test.YtijondjiehoafaaDoorStyP2
import Derived.Deep.RegionHeld3
import Derived.Laws.StructEq
namespace Go.Proofs.YtijondjiehoafaaDoor
open Go.ChangeShapes Go.WideShapes Go.ChangeAt Go.RowKit
set_option linter.unusedVariables false

theorem range_lies {W : World} {g : Nat} {c : Array Value} {t : TypeId} {fr : Nat × Nat} (h : W.heap[g]? = some (.cells c t fr)) : W.rangeAt g 0 c.toList := fun j v hj => (lies_cell h (0 + j)).trans (by rw [← hj, Nat.zero_add]; simp)
theorem eg_bd {s : St} (h : styleB s = true) : 0 ≤ eg s ∧ eg s ≤ 256000 := by
  have := style_bd h
  unfold eg
  omega

set_option maxRecDepth 100000 in
set_option maxHeartbeats 2000000 in
theorem edge1_any (s : St) (w : World) (hs : styleB s = true) : Calls Tryd.prog 88 #[.agg #[.int .i64 s.sh, .int .i64 s.fl, .int .i64 s.cl, .bool s.w.a, .bool s.w.p, .int .i64 s.w.n, .bool s.h.a, .bool s.h.p, .int .i64 s.h.n, .int .i64 s.mn, .int .i64 s.mx, .int .i64 s.mt, .bool s.mr.a, .bool s.mr.p, .int .i64 s.mr.n, .int .i64 s.mb, .bool s.ml.a, .bool s.ml.p, .int .i64 s.ml.n, .int .i64 s.bo, .int .i64 s.pa, .int .i64 s.wh, .int .i64 s.al, .int .i64 s.lh, .int .i64 s.ri, .int .i64 s.dn]] w fun e w' => e = .returned (.int .i64 (s.bo + s.pa)) ∧ Below w.heap.size w w' := by
  obtain ⟨b1, b2, p1, p2, _⟩ := style_bd hs
  clear hs
  go_enter Tryd.func88, Tryd.ntmps88
  go_wp2
  go_ret
  exact ⟨rfl, (Below.refl _ _).alloc (Nat.le_refl _) _⟩
set_option maxRecDepth 100000 in
set_option maxHeartbeats 2000000 in
theorem edges_any (s : St) (w : World) (hs : styleB s = true) : Calls Tryd.prog 72 #[.agg #[.int .i64 s.sh, .int .i64 s.fl, .int .i64 s.cl, .bool s.w.a, .bool s.w.p, .int .i64 s.w.n, .bool s.h.a, .bool s.h.p, .int .i64 s.h.n, .int .i64 s.mn, .int .i64 s.mx, .int .i64 s.mt, .bool s.mr.a, .bool s.mr.p, .int .i64 s.mr.n, .int .i64 s.mb, .bool s.ml.a, .bool s.ml.p, .int .i64 s.ml.n, .int .i64 s.bo, .int .i64 s.pa, .int .i64 s.wh, .int .i64 s.al, .int .i64 s.lh, .int .i64 s.ri, .int .i64 s.dn]] w fun e w' => e = .returned (.int .i64 (eg s)) ∧ Below w.heap.size w w' := by
  have E := fun W => edge1_any s W hs
  obtain ⟨b1, b2, p1, p2, _⟩ := style_bd hs
  have l0 : (w.alloc (.cells (#[.int .i64 s.sh, .int .i64 s.fl, .int .i64 s.cl, .bool s.w.a, .bool s.w.p, .int .i64 s.w.n, .bool s.h.a, .bool s.h.p, .int .i64 s.h.n, .int .i64 s.mn, .int .i64 s.mx, .int .i64 s.mt, .bool s.mr.a, .bool s.mr.p, .int .i64 s.mr.n, .int .i64 s.mb, .bool s.ml.a, .bool s.ml.p, .int .i64 s.ml.n, .int .i64 s.bo, .int .i64 s.pa, .int .i64 s.wh, .int .i64 s.al, .int .i64 s.lh, .int .i64 s.ri, .int .i64 s.dn]) 32)).heap[w.heap.size]? = some (.cells (stCells s) 32 (0, 0)) := heap_at _ _ _ rfl
  have bel := (Below.refl w.heap.size w).alloc (Nat.le_refl _) (.cells (#[.int .i64 s.sh, .int .i64 s.fl, .int .i64 s.cl, .bool s.w.a, .bool s.w.p, .int .i64 s.w.n, .bool s.h.a, .bool s.h.p, .int .i64 s.h.n, .int .i64 s.mn, .int .i64 s.mx, .int .i64 s.mt, .bool s.mr.a, .bool s.mr.p, .int .i64 s.mr.n, .int .i64 s.mb, .bool s.ml.a, .bool s.ml.p, .int .i64 s.ml.n, .int .i64 s.bo, .int .i64 s.pa, .int .i64 s.wh, .int .i64 s.al, .int .i64 s.lh, .int .i64 s.ri, .int .i64 s.dn]) 32)
  have HE : Hid (eg s = 2 * (s.bo + s.pa)) := rfl
  have e1 : 0 ≤ s.bo + s.pa := by omega
  have e2 : s.bo + s.pa ≤ 128000 := by omega
  clear hs b1 b2 p1 p2
  generalize s.bo + s.pa = eb at E HE e1 e2
  generalize eg s = eg0 at HE ⊢
  go_enter Tryd.func72, Tryd.ntmps72
  go_wp2_with ((with_reducible show wpList _ _ _ (⟨some 3, Op.load 32 _, _, _, _, _⟩ :: _) _ _); refine wpList_load_row rfl 32 _ rfl (w.heap.size) rfl _ (stCells s) _ _ l0 Tryd.underlying32 rfl (by kernel_rfl) ?_)
  refine (E _).mono ?_
  rintro e w1 ⟨rfl, hb⟩
  replace bel := bel.trans (hb.mono bel.size)
  clear hb E l0
  go_wp2
  go_ret
  exact ⟨by rw [HE.out]; rfl, bel⟩
def Sx (s : St) (g : Nat) (l x r : Int) (W : World) : Prop := W.heap[g]? = some (.cells (stCells s) 32 (0, 0)) ∧ W.heap[g + 1]? = some (.cells #[.int .i64 l, .int .i64 x, .int .i64 r] 27 (0, 0))
set_option maxRecDepth 100000 in
set_option maxHeartbeats 4000000 in
theorem room_any (s : St) (b l x r : Int) (w : World) (hs : styleB s = true) (b1 : 0 ≤ b) (b2 : b ≤ 1000000) (l1 : -1000000 ≤ l) (l2 : l ≤ 1000000) (r1 : -1000000 ≤ r) (r2 : r ≤ 1000000) :
    Calls Tryd.prog 42 #[.agg #[.int .i64 s.sh, .int .i64 s.fl, .int .i64 s.cl, .bool s.w.a, .bool s.w.p, .int .i64 s.w.n, .bool s.h.a, .bool s.h.p, .int .i64 s.h.n, .int .i64 s.mn, .int .i64 s.mx, .int .i64 s.mt, .bool s.mr.a, .bool s.mr.p, .int .i64 s.mr.n, .int .i64 s.mb, .bool s.ml.a, .bool s.ml.p, .int .i64 s.ml.n, .int .i64 s.bo, .int .i64 s.pa, .int .i64 s.wh, .int .i64 s.al, .int .i64 s.lh, .int .i64 s.ri, .int .i64 s.dn], .int .i64 b, .agg #[.int .i64 l, .int .i64 x, .int .i64 r]] w fun e w' => e = .returned (.int .i64 (b - eg s - l - r)) ∧ Below w.heap.size w w' := by
  have E := fun W => edges_any s W hs
  obtain ⟨g1, g2⟩ := eg_bd hs
  have hS : Sx s w.heap.size l x r ((w.alloc (.cells (#[.int .i64 s.sh, .int .i64 s.fl, .int .i64 s.cl, .bool s.w.a, .bool s.w.p, .int .i64 s.w.n, .bool s.h.a, .bool s.h.p, .int .i64 s.h.n, .int .i64 s.mn, .int .i64 s.mx, .int .i64 s.mt, .bool s.mr.a, .bool s.mr.p, .int .i64 s.mr.n, .int .i64 s.mb, .bool s.ml.a, .bool s.ml.p, .int .i64 s.ml.n, .int .i64 s.bo, .int .i64 s.pa, .int .i64 s.wh, .int .i64 s.al, .int .i64 s.lh, .int .i64 s.ri, .int .i64 s.dn]) 32)).alloc (.cells #[.int .i64 l, .int .i64 x, .int .i64 r] 27)) := ⟨heap_in (heap_at _ _ _ rfl), heap_at _ _ _ (by simp)⟩
  have bel := ((Below.refl w.heap.size w).alloc (Nat.le_refl _) (.cells (#[.int .i64 s.sh, .int .i64 s.fl, .int .i64 s.cl, .bool s.w.a, .bool s.w.p, .int .i64 s.w.n, .bool s.h.a, .bool s.h.p, .int .i64 s.h.n, .int .i64 s.mn, .int .i64 s.mx, .int .i64 s.mt, .bool s.mr.a, .bool s.mr.p, .int .i64 s.mr.n, .int .i64 s.mb, .bool s.ml.a, .bool s.ml.p, .int .i64 s.ml.n, .int .i64 s.bo, .int .i64 s.pa, .int .i64 s.wh, .int .i64 s.al, .int .i64 s.lh, .int .i64 s.ri, .int .i64 s.dn]) 32)).alloc (by simp) (.cells #[.int .i64 l, .int .i64 x, .int .i64 r] 27)
  clear hs
  generalize eg s = eg0 at E g1 g2 ⊢
  go_enter Tryd.func42, Tryd.ntmps42
  go_wp2
  refine wp_region_held_drew (S := Sx s w.heap.size l x r) (by kernel_rfl) hS (fun hHeld => ?_)
  refine wpAnyH_take (i := 0) (oi := { dst := some 7, op := Op.move (Operand.tmp 1), type := 3, pos := "l6_width.go:100", after := #[], guard := none }) (v := .int .i64 b) rfl (by kernel_rfl) (by kernel_rfl) (by kernel_rfl) (fun _ _ _ h => h) (Or.inl ⟨by rfl, by intro w hSw; go_simp⟩) hHeld ?_
  simp only [Act.put, List.setIfInBounds_toArray, List.set_cons_zero, List.set_cons_succ]
  refine wpAnyH_take (i := 1) (oi := { dst := some 8, op := Op.load 32 (Operand.tmp 3), type := 32, pos := "l6_width.go:100", after := #[], guard := none }) (v := .agg ((stCells s).toList).toArray) rfl (by kernel_rfl) (by kernel_rfl) (by kernel_rfl) (fun _ _ _ h => h) (yieldsIf_load_mid (by rfl) 32 _ rfl (w.heap.size) 0 rfl ((stCells s).toList) _ (fun wz hw => range_lies hw.1) Tryd.underlying32 rfl (by kernel_rfl)) hHeld ?_
  simp only [Act.put, List.setIfInBounds_toArray, List.set_cons_zero, List.set_cons_succ]
  refine wpAnyH_take (i := 4) (oi := { dst := some 11, op := Op.fieldAddr 27 (Operand.tmp 5) 0, type := 0, pos := "l6_width.go:100", after := #[], guard := none }) (v := .pointer (some ⟨w.heap.size + 1, 0, none⟩)) rfl (by kernel_rfl) (by kernel_rfl) (by kernel_rfl) (fun _ _ _ h => h) (Or.inl ⟨by rfl, by intro w hSw; go_simp⟩) hHeld ?_
  simp only [Act.put, List.setIfInBounds_toArray, List.set_cons_zero, List.set_cons_succ]
  refine wpAnyH_take (i := 5) (oi := { dst := some 12, op := Op.load 3 (Operand.tmp 11), type := 3, pos := "l6_width.go:100", after := #[⟨4, Ground.data⟩], guard := none }) (v := .int .i64 l) rfl (by kernel_rfl) (by kernel_rfl) (by kernel_rfl) (fun _ _ _ h => h) (Or.inl ⟨by rfl, by intro wz hSw; have hq : wz.cell? ⟨w.heap.size + 1, 0, none⟩ = some (.int .i64 l) := (lies_cell hSw.2 0).trans rfl; clear hSw; go_simp⟩) hHeld ?_
  simp only [Act.put, List.setIfInBounds_toArray, List.set_cons_zero, List.set_cons_succ]
  refine wpAnyH_take (i := 7) (oi := { dst := some 14, op := Op.fieldAddr 27 (Operand.tmp 5) 2, type := 0, pos := "l6_width.go:100", after := #[], guard := none }) (v := .pointer (some ⟨w.heap.size + 1, 2, none⟩)) rfl (by kernel_rfl) (by kernel_rfl) (by kernel_rfl) (fun _ _ _ h => h) (Or.inl ⟨by rfl, by intro w hSw; go_simp⟩) hHeld ?_
  simp only [Act.put, List.setIfInBounds_toArray, List.set_cons_zero, List.set_cons_succ]
  refine wpAnyH_take (i := 8) (oi := { dst := some 15, op := Op.load 3 (Operand.tmp 14), type := 3, pos := "l6_width.go:100", after := #[⟨7, Ground.data⟩], guard := none }) (v := .int .i64 r) rfl (by kernel_rfl) (by kernel_rfl) (by kernel_rfl) (fun _ _ _ h => h) (Or.inl ⟨by rfl, by intro wz hSw; have hq : wz.cell? ⟨w.heap.size + 1, 2, none⟩ = some (.int .i64 r) := (lies_cell hSw.2 2).trans rfl; clear hSw; go_simp⟩) hHeld ?_
  simp only [Act.put, List.setIfInBounds_toArray, List.set_cons_zero, List.set_cons_succ]
  refine wpAnyH_ready (rs := [2]) (by kernel_rfl) (by simp) ?_
  refine AllReadyH.cons (o := { dst := some 9, op := Op.call { callee := Callee.value (Operand.func 72), args := #[Operand.tmp 8], argTypes := #[32] }, type := 3, pos := "l6_width.go:100", after := #[⟨1, Ground.data⟩], guard := none }) rfl (fun K hK => ?_) AllReadyH.nil
  go_simp
  refine (E _).mono ?_
  rintro e w2 ⟨rfl, hb⟩
  have hx2 : Sx s w.heap.size l x r w2 := ⟨below_lies hb hHeld.1 (lies_lt hHeld.1), below_lies hb hHeld.2 (lies_lt hHeld.2)⟩
  go_wp2_with fail
  refine hK.out _ _ hx2 (fun hHeld2 => ?_)
  clear hK K
  try simp only [Act.put, List.setIfInBounds_toArray, List.set_cons_zero, List.set_cons_succ]
  refine wpAnyH_take (i := 3) (oi := { dst := some 10, op := Op.binOp BinOp.sub 3 (Operand.tmp 7) (Operand.tmp 9) 3, type := 3, pos := "l6_width.go:100", after := #[⟨0, Ground.data⟩, ⟨2, Ground.data⟩], guard := none }) (v := .int .i64 (b - (eg0))) rfl (by kernel_rfl) (by kernel_rfl) (by kernel_rfl) (fun _ _ _ h => h) (Or.inl ⟨by rfl, by intro wz hSw; go_simp; exact wrap6 (by omega) (by omega)⟩) hHeld2 ?_
  simp only [Act.put, List.setIfInBounds_toArray, List.set_cons_zero, List.set_cons_succ]
  refine wpAnyH_take (i := 6) (oi := { dst := some 13, op := Op.binOp BinOp.sub 3 (Operand.tmp 10) (Operand.tmp 12) 3, type := 3, pos := "l6_width.go:100", after := #[⟨3, Ground.data⟩, ⟨5, Ground.data⟩], guard := none }) (v := .int .i64 ((b - (eg0)) - l)) rfl (by kernel_rfl) (by kernel_rfl) (by kernel_rfl) (fun _ _ _ h => h) (Or.inl ⟨by rfl, by intro wz hSw; go_simp; exact wrap6 (by omega) (by omega)⟩) hHeld2 ?_
  simp only [Act.put, List.setIfInBounds_toArray, List.set_cons_zero, List.set_cons_succ]
  refine wpAnyH_take (i := 9) (oi := { dst := some 16, op := Op.binOp BinOp.sub 3 (Operand.tmp 13) (Operand.tmp 15) 3, type := 3, pos := "l6_width.go:100", after := #[⟨6, Ground.data⟩, ⟨8, Ground.data⟩], guard := none }) (v := .int .i64 (((b - (eg0)) - l) - r)) rfl (by kernel_rfl) (by kernel_rfl) (by kernel_rfl) (fun _ _ _ h => h) (Or.inl ⟨by rfl, by intro wz hSw; go_simp; exact wrap6 (by omega) (by omega)⟩) hHeld2 ?_
  simp only [Act.put, List.setIfInBounds_toArray, List.set_cons_zero, List.set_cons_succ]
  refine wpAnyH_take (i := 10) (oi := { dst := some 6, op := Op.assign (Operand.tmp 16), type := 3, pos := "l6_width.go:100", after := #[⟨9, Ground.data⟩, ⟨2, Ground.chain⟩, ⟨0, Ground.phase⟩, ⟨1, Ground.phase⟩, ⟨2, Ground.phase⟩, ⟨3, Ground.phase⟩, ⟨4, Ground.phase⟩, ⟨5, Ground.phase⟩, ⟨6, Ground.phase⟩, ⟨7, Ground.phase⟩, ⟨8, Ground.phase⟩, ⟨9, Ground.phase⟩], guard := none }) (v := .int .i64 (((b - (eg0)) - l) - r)) rfl (by kernel_rfl) (by kernel_rfl) (by kernel_rfl) (fun _ _ _ h => h) (Or.inl ⟨by rfl, by intro w hSw; go_simp⟩) hHeld2 ?_
  simp only [Act.put, List.setIfInBounds_toArray, List.set_cons_zero, List.set_cons_succ]
  refine wpAnyH_done (by kernel_rfl) ?_ _
  have bel2 : Below w.heap.size w w2 := bel.trans (Below.mono (B := ((w.alloc (.cells (#[.int .i64 s.sh, .int .i64 s.fl, .int .i64 s.cl, .bool s.w.a, .bool s.w.p, .int .i64 s.w.n, .bool s.h.a, .bool s.h.p, .int .i64 s.h.n, .int .i64 s.mn, .int .i64 s.mx, .int .i64 s.mt, .bool s.mr.a, .bool s.mr.p, .int .i64 s.mr.n, .int .i64 s.mb, .bool s.ml.a, .bool s.ml.p, .int .i64 s.ml.n, .int .i64 s.bo, .int .i64 s.pa, .int .i64 s.wh, .int .i64 s.al, .int .i64 s.lh, .int .i64 s.ri, .int .i64 s.dn]) 32)).alloc (.cells #[.int .i64 l, .int .i64 x, .int .i64 r] 27)).heap.size) ⟨hb.os, hb.tape, hb.output, hb.size, hb.block⟩ bel.size)
  clear hb hHeld hHeld2 hx2 hS E bel
  go_wp2
  go_ret
  exact ⟨rfl, bel2⟩
end Go.Proofs.YtijondjiehoafaaDoor
