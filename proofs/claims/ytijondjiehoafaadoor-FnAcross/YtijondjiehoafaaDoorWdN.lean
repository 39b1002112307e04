/-
  The model's l6Across: a block's widths.
-/
import Derived.Test.YtijondjiehoafaaDoorWdM
import Derived.Test.YtijondjiehoafaaDoorWdK
namespace Go.Proofs.YtijondjiehoafaaDoor
open Go.ChangeShapes Go.WideShapes Go.ChangeAt Go.RowKit
set_option linter.unusedVariables false

theorem cl_max (n : Int) : clZ n 0 (-1) = max n 0 := by unfold clZ; rw [if_neg (by omega)]
theorem blL_is (s : St) (b : Int) : blL s b = if s.w.a = true ∧ blW s b = w0 s b then mlN s b else if s.ml.a = true ∧ s.mr.a = true ∧ 0 ≤ b - eg s - blW s b then down (b - eg s - blW s b) 2 else if s.ml.a = true ∧ s.mr.a = false ∧ mrN s b ≤ b - eg s - blW s b then b - eg s - blW s b - mrN s b else mlN s b := rfl
set_option maxRecDepth 100000 in
set_option maxHeartbeats 16000000 in
theorem l6Across_any (s : St) (b : Int) (w : World) (ha : okA s b = true) :
    Calls Tryd.prog 31 #[.agg #[.int .i64 s.sh, .int .i64 s.fl, .int .i64 s.cl, .bool s.w.a, .bool s.w.p, .int .i64 s.w.n, .bool s.h.a, .bool s.h.p, .int .i64 s.h.n, .int .i64 s.mn, .int .i64 s.mx, .int .i64 s.mt, .bool s.mr.a, .bool s.mr.p, .int .i64 s.mr.n, .int .i64 s.mb, .bool s.ml.a, .bool s.ml.p, .int .i64 s.ml.n, .int .i64 s.bo, .int .i64 s.pa, .int .i64 s.wh, .int .i64 s.al, .int .i64 s.lh, .int .i64 s.ri, .int .i64 s.dn], .int .i64 b] w fun e w' => e = .returned (.agg #[.int .i64 (blL s b), .int .i64 (blW s b), .int .i64 (blR s b)]) ∧ Below w.heap.size w w' := by
  obtain ⟨hs, hb0, i1, i2, i3⟩ := okA_yes ha
  obtain ⟨k1, k2⟩ := inB_yes hb0
  obtain ⟨k3, k4⟩ := inB_yes i1
  obtain ⟨k5, k6⟩ := inB_yes i3
  obtain ⟨k7, k8⟩ := inB_yes i2
  obtain ⟨z1, z2, z3⟩ := style_sz hs
  have L := fun w => l6Size_any s.ml.a s.ml.p s.ml.n b w k1 k2 (szB_bd z1).1 (szB_bd z1).2
  have M := fun w => l6Size_any s.mr.a s.mr.p s.mr.n b w k1 k2 (szB_bd z2).1 (szB_bd z2).2
  have D := fun w => l6Size_any s.w.a s.w.p s.w.n b w k1 k2 (szB_bd z3).1 (szB_bd z3).2
  rw [show szN s.ml.p s.ml.n b = mlN s b from rfl] at L
  rw [show szN s.mr.p s.mr.n b = mrN s b from rfl] at M
  rw [show szN s.w.p s.w.n b = wdN s b from rfl] at D
  have ED := fun w => edge_any s w hs
  obtain ⟨g1, g2⟩ := eg_bd hs
  obtain ⟨_, _, _, _, n1, n2, _, _⟩ := style_bd hs
  have CW : 0 ≤ blW s b ∧ blW s b ≤ 10000000 := clZ_bd (by unfold w0; split <;> omega) (by unfold w0; split <;> omega) n1 n2
  obtain ⟨cw1, cw2⟩ := CW
  have C0 := fun w => clampS (b - eg s - mlN s b - mrN s b) 0 (-1) w
  rw [cl_max] at C0
  have HC : Hid (clZ (w0 s b) s.mn s.mx = blW s b) := rfl
  have HX : Hid (w0 s b = if s.w.a then max (b - eg s - mlN s b - mrN s b) 0 else wdN s b) := rfl
  have HL : Hid (blL s b = _) := blL_is s b
  unfold blR
  generalize hzl : blL s b = zl at HL ⊢
  generalize hxx : w0 s b = x0 at HC HX HL
  generalize hcw : blW s b = cw at HC HL cw1 cw2 ⊢
  generalize heg : eg s = eg0 at HX HL C0 ED g1 g2 ⊢
  generalize hvl : mlN s b = vl at HX HL C0 L k3 k4
  generalize hvm : mrN s b = vm at HX HL C0 M k5 k6
  generalize hvd : wdN s b = vd at HX D k7 k8
  clear ha hs hb0 i1 i2 i3 z1 z2 z3 n1 n2 hzl hxx hcw heg hvl hvm hvd
  have hS : Sw s w ((w.alloc (.cells (#[.int .i64 s.sh, .int .i64 s.fl, .int .i64 s.cl, .bool s.w.a, .bool s.w.p, .int .i64 s.w.n, .bool s.h.a, .bool s.h.p, .int .i64 s.h.n, .int .i64 s.mn, .int .i64 s.mx, .int .i64 s.mt, .bool s.mr.a, .bool s.mr.p, .int .i64 s.mr.n, .int .i64 s.mb, .bool s.ml.a, .bool s.ml.p, .int .i64 s.ml.n, .int .i64 s.bo, .int .i64 s.pa, .int .i64 s.wh, .int .i64 s.al, .int .i64 s.lh, .int .i64 s.ri, .int .i64 s.dn]) 32)).alloc (.cells (#[.int .i64 0, .int .i64 0, .int .i64 0]) 27)) := ⟨((Below.refl _ _).alloc (Nat.le_refl _) _).alloc (by simp) _, heap_in (heap_at _ _ _ rfl), heap_at _ _ _ (by simp)⟩
  go_enter Tryd.func31, Tryd.ntmps31
  go_wp2
  refine Code.wp_mono (Q := fun e a' w' => e = .normal ∧ ∃ p, w.heap.size + 1 < p ∧ a' = { tmps := #[.agg #[.int .i64 s.sh, .int .i64 s.fl, .int .i64 s.cl, .bool s.w.a, .bool s.w.p, .int .i64 s.w.n, .bool s.h.a, .bool s.h.p, .int .i64 s.h.n, .int .i64 s.mn, .int .i64 s.mx, .int .i64 s.mt, .bool s.mr.a, .bool s.mr.p, .int .i64 s.mr.n, .int .i64 s.mb, .bool s.ml.a, .bool s.ml.p, .int .i64 s.ml.n, .int .i64 s.bo, .int .i64 s.pa, .int .i64 s.wh, .int .i64 s.al, .int .i64 s.lh, .int .i64 s.ri, .int .i64 s.dn], .int .i64 b, .pointer (some ⟨w.heap.size, 0, none⟩), undef, .pointer (some ⟨w.heap.size + 1, 0, none⟩), .pointer (some ⟨p, 0, none⟩), undef, undef, .pointer (some ⟨w.heap.size, 16, none⟩), .agg #[.bool s.ml.a, .bool s.ml.p, .int .i64 s.ml.n], .int .i64 b, .int .i64 vl, .pointer (some ⟨w.heap.size, 12, none⟩), .agg #[.bool s.mr.a, .bool s.mr.p, .int .i64 s.mr.n], .int .i64 b, .int .i64 vm, .agg #[.int .i64 vl, .int .i64 0, .int .i64 vm], undef, undef, undef, undef, undef, undef, undef, undef, undef, undef, undef, undef, undef, undef, undef, undef, undef, undef, undef, undef, undef, undef, undef, undef, undef, undef, undef, undef, undef, undef, undef, undef, undef, undef, undef, undef, undef, undef, undef, undef, undef, undef, undef, undef, undef, undef, undef, undef, undef, undef, undef, undef, undef, undef, undef, undef, undef, undef, undef, undef, undef, undef, undef, undef, undef, undef, undef, undef, undef, undef, undef, undef, undef, undef, undef, undef, undef, undef, undef, undef, undef, undef, undef, undef, undef, undef, undef, undef, undef, undef, undef], defers := [] } ∧ Sw s w w' ∧ w'.heap[p]? = some (.cells (#[.int .i64 vl, .int .i64 0, .int .i64 vm]) 27 (0, 0))) ?_ ?_
  rotate_left
  · refine wp_region_held_drew (S := Sw s w) (by kernel_rfl) ⟨⟨hS.1.os, hS.1.tape, hS.1.output, hS.1.size, hS.1.block⟩, hS.2.1, hS.2.2⟩ (fun hHeld => ?_)
    refine wpAnyH_take (i := 0) (oi := { dst := some 8, op := Op.fieldAddr 32 (Operand.tmp 2) 10, type := 0, pos := "l6_width.go:27", after := #[], guard := none }) (v := .pointer (some ⟨w.heap.size, 16, none⟩)) rfl (by kernel_rfl) (by kernel_rfl) (by kernel_rfl) (fun _ _ _ h => by cases h.1) (Or.inl ⟨by rfl, by intro wz hSw; go_simp⟩) hHeld ?_
    simp only [Act.put, List.setIfInBounds_toArray, List.set_cons_zero, List.set_cons_succ]
    refine wpAnyH_take (i := 1) (oi := { dst := some 9, op := Op.load 30 (Operand.tmp 8), type := 30, pos := "l6_width.go:27", after := #[⟨0, Ground.data⟩], guard := none }) (v := .agg #[.bool s.ml.a, .bool s.ml.p, .int .i64 s.ml.n]) rfl (by kernel_rfl) (by kernel_rfl) (by kernel_rfl) (fun _ _ _ h => by cases h.1) (yieldsIf_load_mid (by rfl) 30 _ rfl (w.heap.size) 16 rfl ([.bool s.ml.a, .bool s.ml.p, .int .i64 s.ml.n]) _ (fun wz hw => range_part hw.2.1 16 (by rfl)) Tryd.underlying30 rfl (by kernel_rfl)) hHeld ?_
    simp only [Act.put, List.setIfInBounds_toArray, List.set_cons_zero, List.set_cons_succ]
    refine wpAnyH_take (i := 2) (oi := { dst := some 10, op := Op.move (Operand.tmp 1), type := 3, pos := "l6_width.go:27", after := #[], guard := none }) (v := .int .i64 b) rfl (by kernel_rfl) (by kernel_rfl) (by kernel_rfl) (fun _ _ _ h => by cases h.1) (Or.inl ⟨by rfl, by intro wz hSw; go_simp⟩) hHeld ?_
    simp only [Act.put, List.setIfInBounds_toArray, List.set_cons_zero, List.set_cons_succ]
    refine wpAnyH_take (i := 4) (oi := { dst := some 12, op := Op.fieldAddr 32 (Operand.tmp 2) 8, type := 0, pos := "l6_width.go:27", after := #[], guard := none }) (v := .pointer (some ⟨w.heap.size, 12, none⟩)) rfl (by kernel_rfl) (by kernel_rfl) (by kernel_rfl) (fun _ _ _ h => by cases h.1) (Or.inl ⟨by rfl, by intro wz hSw; go_simp⟩) hHeld ?_
    simp only [Act.put, List.setIfInBounds_toArray, List.set_cons_zero, List.set_cons_succ]
    refine wpAnyH_take (i := 5) (oi := { dst := some 13, op := Op.load 30 (Operand.tmp 12), type := 30, pos := "l6_width.go:27", after := #[⟨4, Ground.data⟩], guard := none }) (v := .agg #[.bool s.mr.a, .bool s.mr.p, .int .i64 s.mr.n]) rfl (by kernel_rfl) (by kernel_rfl) (by kernel_rfl) (fun _ _ _ h => by cases h.1) (yieldsIf_load_mid (by rfl) 30 _ rfl (w.heap.size) 12 rfl ([.bool s.mr.a, .bool s.mr.p, .int .i64 s.mr.n]) _ (fun wz hw => range_part hw.2.1 12 (by rfl)) Tryd.underlying30 rfl (by kernel_rfl)) hHeld ?_
    simp only [Act.put, List.setIfInBounds_toArray, List.set_cons_zero, List.set_cons_succ]
    refine wpAnyH_take (i := 6) (oi := { dst := some 14, op := Op.move (Operand.tmp 1), type := 3, pos := "l6_width.go:27", after := #[], guard := none }) (v := .int .i64 b) rfl (by kernel_rfl) (by kernel_rfl) (by kernel_rfl) (fun _ _ _ h => by cases h.1) (Or.inl ⟨by rfl, by intro wz hSw; go_simp⟩) hHeld ?_
    simp only [Act.put, List.setIfInBounds_toArray, List.set_cons_zero, List.set_cons_succ]
    refine wpAnyH_ready (rs := [3, 9]) (by kernel_rfl) (by simp) ?_
    refine AllReadyH.cons (o := { dst := some 11, op := Op.call { callee := Callee.value (Operand.func 30), args := #[Operand.tmp 9, Operand.tmp 10], argTypes := #[30, 3] }, type := 3, pos := "l6_width.go:27", after := #[⟨1, Ground.data⟩, ⟨2, Ground.data⟩], guard := none }) rfl (fun K hK => ?_) (AllReadyH.cons (o := { dst := some 5, op := Op.alloc 27, type := 0, pos := "l6_width.go:27", after := #[], guard := none }) rfl (fun K hK => ?_) AllReadyH.nil)
    · go_simp
      refine (L _).mono ?_
      rintro e v1 ⟨rfl, hb1⟩
      go_wp2_with fail
      refine hK.out _ _ (Sw_call hHeld hb1) (fun hH1 => ?_)
      clear hK K
      try simp only [Act.put, List.setIfInBounds_toArray, List.set_cons_zero, List.set_cons_succ]
      refine wpAnyH_ready (rs := [7, 9]) (by kernel_rfl) (by simp) ?_
      refine AllReadyH.cons (o := { dst := some 15, op := Op.call { callee := Callee.value (Operand.func 30), args := #[Operand.tmp 13, Operand.tmp 14], argTypes := #[30, 3] }, type := 3, pos := "l6_width.go:27", after := #[⟨5, Ground.data⟩, ⟨6, Ground.data⟩, ⟨3, Ground.chain⟩], guard := none }) rfl (fun K hK => ?_) (AllReadyH.cons (o := { dst := some 5, op := Op.alloc 27, type := 0, pos := "l6_width.go:27", after := #[], guard := none }) rfl (fun K hK => ?_) AllReadyH.nil)
      · go_simp
        refine (M _).mono ?_
        rintro e v2 ⟨rfl, hb2⟩
        go_wp2_with fail
        refine hK.out _ _ (Sw_call hH1 hb2) (fun hH2 => ?_)
        clear hK K
        try simp only [Act.put, List.setIfInBounds_toArray, List.set_cons_zero, List.set_cons_succ]
        refine wpAnyH_take (i := 8) (oi := { dst := some 16, op := Op.build 27 #[(0, Operand.tmp 11), (2, Operand.tmp 15)], type := 27, pos := "l6_width.go:27", after := #[⟨3, Ground.data⟩, ⟨7, Ground.data⟩], guard := none }) (v := .agg #[.int .i64 vl, .int .i64 0, .int .i64 vm]) rfl (by kernel_rfl) (by kernel_rfl) (by kernel_rfl) (fun _ _ _ h => by cases h.1) (Or.inl ⟨by rfl, by intro wz hSw; go_simp⟩) hH2 ?_
        simp only [Act.put, List.setIfInBounds_toArray, List.set_cons_zero, List.set_cons_succ]
        refine wpAnyH_ready (rs := [9]) (by kernel_rfl) (by simp) ?_
        refine AllReadyH.cons (o := { dst := some 5, op := Op.alloc 27, type := 0, pos := "l6_width.go:27", after := #[], guard := none }) rfl (fun K hK => ?_) AllReadyH.nil
        go_simp
        refine hK.out _ _ (Sw_alloc hH2 _) (fun hH3 => ?_)
        clear hK K
        try simp only [Act.put, List.setIfInBounds_toArray, List.set_cons_zero, List.set_cons_succ]
        have l5 := heap_at (v2) (.cells (#[.int .i64 0, .int .i64 0, .int .i64 0]) 27) _ rfl
        have hl5 := lies_lt hH2.2.2
        refine wpAnyH_ready (rs := [10]) (by kernel_rfl) (by simp) ?_
        refine AllReadyH.cons (o := { dst := none, op := Op.store 27 (Operand.tmp 5) (Operand.tmp 16), type := 0, pos := "l6_width.go:27", after := #[⟨9, Ground.data⟩, ⟨8, Ground.data⟩, ⟨7, Ground.chain⟩, ⟨0, Ground.phase⟩, ⟨1, Ground.phase⟩, ⟨2, Ground.phase⟩, ⟨3, Ground.phase⟩, ⟨4, Ground.phase⟩, ⟨5, Ground.phase⟩, ⟨6, Ground.phase⟩, ⟨7, Ground.phase⟩, ⟨8, Ground.phase⟩, ⟨9, Ground.phase⟩], guard := none }) rfl (fun K hK => ?_) AllReadyH.nil
        rw [if_pos (by rfl)]
        refine wp_putA 27 _ _ rfl rfl _ 0 3 [.int .i64 vl, .int .i64 0, .int .i64 vm] _ _ rfl rfl l5 rfl (by kernel_rfl) (by kernel_rfl) (by kernel_rfl) ?_
        intro v4 p9 l9
        have l5 := l9.trans (congrArg (fun c => some (Obj.cells c 27 (0, 0))) (show _ = (#[.int .i64 vl, .int .i64 0, .int .i64 vm] : Array Value) by kernel_rfl))
        refine hK.out _ _ (Sw_put hH3 p9 hl5) (fun hH4 => ?_)
        clear hK K l9
        try simp only [Act.put, List.setIfInBounds_toArray, List.set_cons_zero, List.set_cons_succ]
        refine wpAnyH_done (by kernel_rfl) ?_ _
        exact ⟨rfl, _, hl5, rfl, hH4, l5⟩
      · go_simp
        refine hK.out _ _ (Sw_alloc hH1 _) (fun hH5 => ?_)
        clear hK K
        try simp only [Act.put, List.setIfInBounds_toArray, List.set_cons_zero, List.set_cons_succ]
        have l5 := heap_at (v1) (.cells (#[.int .i64 0, .int .i64 0, .int .i64 0]) 27) _ rfl
        have hl5 := lies_lt hH1.2.2
        refine wpAnyH_ready (rs := [7]) (by kernel_rfl) (by simp) ?_
        refine AllReadyH.cons (o := { dst := some 15, op := Op.call { callee := Callee.value (Operand.func 30), args := #[Operand.tmp 13, Operand.tmp 14], argTypes := #[30, 3] }, type := 3, pos := "l6_width.go:27", after := #[⟨5, Ground.data⟩, ⟨6, Ground.data⟩, ⟨3, Ground.chain⟩], guard := none }) rfl (fun K hK => ?_) AllReadyH.nil
        go_simp
        refine (M _).mono ?_
        rintro e v6 ⟨rfl, hb6⟩
        have l5 := below_lies hb6 l5 (lies_lt l5)
        go_wp2_with fail
        refine hK.out _ _ (Sw_call hH5 hb6) (fun hH6 => ?_)
        clear hK K
        try simp only [Act.put, List.setIfInBounds_toArray, List.set_cons_zero, List.set_cons_succ]
        refine wpAnyH_take (i := 8) (oi := { dst := some 16, op := Op.build 27 #[(0, Operand.tmp 11), (2, Operand.tmp 15)], type := 27, pos := "l6_width.go:27", after := #[⟨3, Ground.data⟩, ⟨7, Ground.data⟩], guard := none }) (v := .agg #[.int .i64 vl, .int .i64 0, .int .i64 vm]) rfl (by kernel_rfl) (by kernel_rfl) (by kernel_rfl) (fun _ _ _ h => by cases h.1) (Or.inl ⟨by rfl, by intro wz hSw; go_simp⟩) hH6 ?_
        simp only [Act.put, List.setIfInBounds_toArray, List.set_cons_zero, List.set_cons_succ]
        refine wpAnyH_ready (rs := [10]) (by kernel_rfl) (by simp) ?_
        refine AllReadyH.cons (o := { dst := none, op := Op.store 27 (Operand.tmp 5) (Operand.tmp 16), type := 0, pos := "l6_width.go:27", after := #[⟨9, Ground.data⟩, ⟨8, Ground.data⟩, ⟨7, Ground.chain⟩, ⟨0, Ground.phase⟩, ⟨1, Ground.phase⟩, ⟨2, Ground.phase⟩, ⟨3, Ground.phase⟩, ⟨4, Ground.phase⟩, ⟨5, Ground.phase⟩, ⟨6, Ground.phase⟩, ⟨7, Ground.phase⟩, ⟨8, Ground.phase⟩, ⟨9, Ground.phase⟩], guard := none }) rfl (fun K hK => ?_) AllReadyH.nil
        rw [if_pos (by rfl)]
        refine wp_putA 27 _ _ rfl rfl _ 0 3 [.int .i64 vl, .int .i64 0, .int .i64 vm] _ _ rfl rfl l5 rfl (by kernel_rfl) (by kernel_rfl) (by kernel_rfl) ?_
        intro v7 p9 l9
        have l5 := l9.trans (congrArg (fun c => some (Obj.cells c 27 (0, 0))) (show _ = (#[.int .i64 vl, .int .i64 0, .int .i64 vm] : Array Value) by kernel_rfl))
        refine hK.out _ _ (Sw_put hH6 p9 hl5) (fun hH7 => ?_)
        clear hK K l9
        try simp only [Act.put, List.setIfInBounds_toArray, List.set_cons_zero, List.set_cons_succ]
        refine wpAnyH_done (by kernel_rfl) ?_ _
        exact ⟨rfl, _, hl5, rfl, hH7, l5⟩
    · go_simp
      refine hK.out _ _ (Sw_alloc hHeld _) (fun hH8 => ?_)
      clear hK K
      try simp only [Act.put, List.setIfInBounds_toArray, List.set_cons_zero, List.set_cons_succ]
      have l5 := heap_at (((w.alloc (.cells (#[.int .i64 s.sh, .int .i64 s.fl, .int .i64 s.cl, .bool s.w.a, .bool s.w.p, .int .i64 s.w.n, .bool s.h.a, .bool s.h.p, .int .i64 s.h.n, .int .i64 s.mn, .int .i64 s.mx, .int .i64 s.mt, .bool s.mr.a, .bool s.mr.p, .int .i64 s.mr.n, .int .i64 s.mb, .bool s.ml.a, .bool s.ml.p, .int .i64 s.ml.n, .int .i64 s.bo, .int .i64 s.pa, .int .i64 s.wh, .int .i64 s.al, .int .i64 s.lh, .int .i64 s.ri, .int .i64 s.dn]) 32)).alloc (.cells (#[.int .i64 0, .int .i64 0, .int .i64 0]) 27)).drew) (.cells (#[.int .i64 0, .int .i64 0, .int .i64 0]) 27) (w.heap.size + 1 + 1) (by simp)
      have hl5 : w.heap.size + 1 < w.heap.size + 1 + 1 := Nat.lt_succ_self _
      refine wpAnyH_ready (rs := [3]) (by kernel_rfl) (by simp) ?_
      refine AllReadyH.cons (o := { dst := some 11, op := Op.call { callee := Callee.value (Operand.func 30), args := #[Operand.tmp 9, Operand.tmp 10], argTypes := #[30, 3] }, type := 3, pos := "l6_width.go:27", after := #[⟨1, Ground.data⟩, ⟨2, Ground.data⟩], guard := none }) rfl (fun K hK => ?_) AllReadyH.nil
      go_simp
      refine (L _).mono ?_
      rintro e v9 ⟨rfl, hb9⟩
      have l5 := below_lies hb9 l5 (lies_lt l5)
      go_wp2_with fail
      refine hK.out _ _ (Sw_call hH8 hb9) (fun hH9 => ?_)
      clear hK K
      try simp only [Act.put, List.setIfInBounds_toArray, List.set_cons_zero, List.set_cons_succ]
      refine wpAnyH_ready (rs := [7]) (by kernel_rfl) (by simp) ?_
      refine AllReadyH.cons (o := { dst := some 15, op := Op.call { callee := Callee.value (Operand.func 30), args := #[Operand.tmp 13, Operand.tmp 14], argTypes := #[30, 3] }, type := 3, pos := "l6_width.go:27", after := #[⟨5, Ground.data⟩, ⟨6, Ground.data⟩, ⟨3, Ground.chain⟩], guard := none }) rfl (fun K hK => ?_) AllReadyH.nil
      go_simp
      refine (M _).mono ?_
      rintro e v10 ⟨rfl, hb10⟩
      have l5 := below_lies hb10 l5 (lies_lt l5)
      go_wp2_with fail
      refine hK.out _ _ (Sw_call hH9 hb10) (fun hH10 => ?_)
      clear hK K
      try simp only [Act.put, List.setIfInBounds_toArray, List.set_cons_zero, List.set_cons_succ]
      refine wpAnyH_take (i := 8) (oi := { dst := some 16, op := Op.build 27 #[(0, Operand.tmp 11), (2, Operand.tmp 15)], type := 27, pos := "l6_width.go:27", after := #[⟨3, Ground.data⟩, ⟨7, Ground.data⟩], guard := none }) (v := .agg #[.int .i64 vl, .int .i64 0, .int .i64 vm]) rfl (by kernel_rfl) (by kernel_rfl) (by kernel_rfl) (fun _ _ _ h => by cases h.1) (Or.inl ⟨by rfl, by intro wz hSw; go_simp⟩) hH10 ?_
      simp only [Act.put, List.setIfInBounds_toArray, List.set_cons_zero, List.set_cons_succ]
      refine wpAnyH_ready (rs := [10]) (by kernel_rfl) (by simp) ?_
      refine AllReadyH.cons (o := { dst := none, op := Op.store 27 (Operand.tmp 5) (Operand.tmp 16), type := 0, pos := "l6_width.go:27", after := #[⟨9, Ground.data⟩, ⟨8, Ground.data⟩, ⟨7, Ground.chain⟩, ⟨0, Ground.phase⟩, ⟨1, Ground.phase⟩, ⟨2, Ground.phase⟩, ⟨3, Ground.phase⟩, ⟨4, Ground.phase⟩, ⟨5, Ground.phase⟩, ⟨6, Ground.phase⟩, ⟨7, Ground.phase⟩, ⟨8, Ground.phase⟩, ⟨9, Ground.phase⟩], guard := none }) rfl (fun K hK => ?_) AllReadyH.nil
      rw [if_pos (by rfl)]
      refine wp_putA 27 _ _ rfl rfl _ 0 3 [.int .i64 vl, .int .i64 0, .int .i64 vm] _ _ rfl rfl l5 rfl (by kernel_rfl) (by kernel_rfl) (by kernel_rfl) ?_
      intro v11 p9 l9
      have l5 := l9.trans (congrArg (fun c => some (Obj.cells c 27 (0, 0))) (show _ = (#[.int .i64 vl, .int .i64 0, .int .i64 vm] : Array Value) by kernel_rfl))
      refine hK.out _ _ (Sw_put hH10 p9 hl5) (fun hH11 => ?_)
      clear hK K l9
      try simp only [Act.put, List.setIfInBounds_toArray, List.set_cons_zero, List.set_cons_succ]
      refine wpAnyH_done (by kernel_rfl) ?_ _
      exact ⟨rfl, _, hl5, rfl, hH11, l5⟩
  rintro e a' w1 ⟨rfl, p, hp, rfl, ⟨bel, l0, l1⟩, l5⟩
  clear hS L M
  go_wp2_with ((with_reducible show wpList _ _ _ (⟨some 18, Op.load 32 _, _, _, _, _⟩ :: _) _ _); refine wpList_load_row rfl 32 _ rfl (w.heap.size) rfl _ (stCells s) _ _ l0 Tryd.underlying32 rfl (by kernel_rfl) ?_)
  refine (ED _).mono ?_
  rintro e w2 ⟨rfl, hb⟩
  replace bel := bel.trans (hb.mono bel.size)
  replace l0 := below_lies hb l0 (lies_lt l0)
  replace l1 := below_lies hb l1 (lies_lt l1)
  replace l5 := below_lies hb l5 (lies_lt l5)
  clear hb
  have c3 : w2.cell? ⟨w.heap.size, 3, none⟩ = some (.bool s.w.a) := (lies_cell l0 3).trans rfl
  have c4 : w2.cell? ⟨w.heap.size, 4, none⟩ = some (.bool s.w.p) := (lies_cell l0 4).trans rfl
  have c5 : w2.cell? ⟨w.heap.size, 5, none⟩ = some (.int .i64 s.w.n) := (lies_cell l0 5).trans rfl
  go_wp2_with fail
  refine (D _).mono ?_
  rintro e w3 ⟨rfl, hb⟩
  replace bel := bel.trans (hb.mono bel.size)
  replace l0 := below_lies hb l0 (lies_lt l0)
  replace l1 := below_lies hb l1 (lies_lt l1)
  replace l5 := below_lies hb l5 (lies_lt l5)
  clear hb
  clear c3 c4 c5 ED D
  have c9 : w3.cell? ⟨w.heap.size, 9, none⟩ = some (.int .i64 s.mn) := (lies_cell l0 9).trans rfl
  have c10 : w3.cell? ⟨w.heap.size, 10, none⟩ = some (.int .i64 s.mx) := (lies_cell l0 10).trans rfl
  have d0 : w3.cell? ⟨p, 0, none⟩ = some (.int .i64 vl) := (lies_cell l5 0).trans rfl
  have d2 : w3.cell? ⟨p, 2, none⟩ = some (.int .i64 vm) := (lies_cell l5 2).trans rfl
  rcases Bool.eq_false_or_eq_true s.w.a with hw | hw
  · have c3 : w3.cell? ⟨w.heap.size, 3, none⟩ = some (.bool true) := (lies_cell l0 3).trans (by show some (Value.bool s.w.a) = _; rw [hw])
    have C1 := fun w => clampS x0 s.mn s.mx w
    rw [HC.out] at C1
    have HX2 : x0 = max (b - eg0 - vl - vm) 0 := by rw [HX.out, if_pos hw]
    rw [← HX2] at C0
    have HX3 : Hid (x0 = max (b - eg0 - vl - vm) 0) := HX2
    clear HX2
    go_wp2_with fail
    refine (C0 _).mono ?_
    rintro e w' ⟨rfl, hw9⟩
    have hw9 := hw9.symm
    subst hw9
    go_wp2_with fail
    refine (C1 _).mono ?_
    rintro e w' ⟨rfl, hw9⟩
    have hw9 := hw9.symm
    subst hw9
    clear C0
    by_cases hc : cw = x0
    · have HE : Hid (zl = vl) := by show _ = _; rw [HL.out, if_pos ⟨hw, hc⟩]
      clear HL HC HX HX3
      subst hc
      clear hw
      go_wp2_with (first | ((with_reducible show wpList _ _ _ (⟨none, Op.store 3 (Operand.tmp 45) _, _, _, _, _⟩ :: _) _ _); refine wpList_putA rfl _ _ _ rfl rfl _ 1 3 [.int .i64 cw] _ _ rfl rfl l5 rfl (by kernel_rfl) (by kernel_rfl) (by kernel_rfl) ?_; intro w9 p9 l9 n9; replace l5 := l9.trans (congrArg (fun c => some (Obj.cells c 27 (0, 0))) (show _ = (#[.int .i64 vl, .int .i64 cw, .int .i64 vm] : Array Value) by kernel_rfl)); replace l0 := p9.lies l0 (by omega); replace l1 := p9.lies l1 (by omega); replace bel := p9.below bel (by omega); clear l9 n9 p9; have d0 : w9.cell? ⟨p, 0, none⟩ = some (.int .i64 vl) := (lies_cell l5 0).trans rfl) | ((with_reducible show wpList _ _ _ (⟨none, Op.store 3 (Operand.tmp 52) _, _, _, _, _⟩ :: _) _ _); refine wpList_putA rfl _ _ _ rfl rfl _ 2 3 [.int .i64 (b - eg0 - vl - cw)] _ _ rfl rfl l5 rfl (by kernel_rfl) (by kernel_rfl) (by kernel_rfl) ?_; intro w9 p9 l9 n9; replace l5 := l9.trans (congrArg (fun c => some (Obj.cells c 27 (0, 0))) (show _ = (#[.int .i64 vl, .int .i64 cw, .int .i64 (b - eg0 - vl - cw)] : Array Value) by kernel_rfl)); replace l0 := p9.lies l0 (by omega); replace l1 := p9.lies l1 (by omega); replace bel := p9.below bel (by omega); clear l9 n9 p9) | ((with_reducible show wpList _ _ _ (⟨some 53, Op.load 27 _, _, _, _, _⟩ :: _) _ _); refine wpList_load_row rfl 27 _ rfl (p) rfl _ (#[.int .i64 vl, .int .i64 cw, .int .i64 (b - eg0 - vl - cw)]) _ _ l5 Tryd.underlying27 rfl (by kernel_rfl) ?_) | ((with_reducible show wpList _ _ _ (⟨none, Op.store 27 (Operand.tmp 4) (Operand.tmp 53), _, _, _, _⟩ :: _) _ _); refine wpList_putA rfl _ _ _ rfl rfl _ 0 3 [.int .i64 vl, .int .i64 cw, .int .i64 (b - eg0 - vl - cw)] _ _ rfl rfl l1 rfl (by kernel_rfl) (by kernel_rfl) (by kernel_rfl) ?_; intro w9 p9 l9 n9; replace l1 := l9.trans (congrArg (fun c => some (Obj.cells c 27 (0, 0))) (show _ = (#[.int .i64 vl, .int .i64 cw, .int .i64 (b - eg0 - vl - cw)] : Array Value) by kernel_rfl)); replace bel := p9.below bel (by omega); clear l9 n9 p9))
      exact bodyPost_ret (v := .agg #[.int .i64 vl, .int .i64 cw, .int .i64 (b - eg0 - vl - cw)]) (results_cell_row Tryd.results31 _ _ _ _ (#[.int .i64 vl, .int .i64 cw, .int .i64 (b - eg0 - vl - cw)]) _ _ rfl l1 Tryd.underlying27 rfl (by kernel_rfl)) rfl ⟨by rw [HE.out, show b - eg0 - cw - vl = b - eg0 - vl - cw by omega], bel⟩
    · have hcb : (cw == x0) = false := by simpa using hc
      rcases Bool.eq_false_or_eq_true s.ml.a with hl | hl
      · rcases Bool.eq_false_or_eq_true s.mr.a with hr | hr
        · by_cases hq : 0 ≤ b - eg0 - cw
          · have DW := fun w => down_any (b - eg0 - cw) w (by omega) (by omega)
            have HE : Hid (zl = down (b - eg0 - cw) 2) := by show _ = _; rw [HL.out, if_neg (fun h => hc h.2), if_pos ⟨hl, hr, hq⟩]
            have DB : -1000000000 ≤ down (b - eg0 - cw) 2 ∧ down (b - eg0 - cw) 2 ≤ 1000000000 := by rw [down2]; omega
            obtain ⟨db1, db2⟩ := DB
            generalize down (b - eg0 - cw) 2 = q at DW HE db1 db2
            have HBl : Hid (s.ml.a = true) := hl
            have HBr : Hid (s.mr.a = true) := hr
            clear HL HC HX HX3 hw hl hr
            go_wp2_with (first | (go_at_call 68; refine (C1 _).mono ?_; rintro e w' ⟨rfl, hw9⟩; have hw9 := hw9.symm; subst hw9) | ((with_reducible show wpList _ _ _ (⟨none, Op.store 3 (Operand.tmp 60) _, _, _, _, _⟩ :: _) _ _); refine wpList_putA rfl _ _ _ rfl rfl _ 1 3 [.int .i64 cw] _ _ rfl rfl l5 rfl (by kernel_rfl) (by kernel_rfl) (by kernel_rfl) ?_; intro w9 p9 l9 n9; replace l5 := l9.trans (congrArg (fun c => some (Obj.cells c 27 (0, 0))) (show _ = (#[.int .i64 vl, .int .i64 cw, .int .i64 vm] : Array Value) by kernel_rfl)); replace l0 := p9.lies l0 (by omega); replace l1 := p9.lies l1 (by omega); replace bel := p9.below bel (by omega); clear l9 n9 p9; have d1 : w9.cell? ⟨p, 1, none⟩ = some (.int .i64 cw) := (lies_cell l5 1).trans rfl; have d0 : w9.cell? ⟨p, 0, none⟩ = some (.int .i64 vl) := (lies_cell l5 0).trans rfl; have d2 : w9.cell? ⟨p, 2, none⟩ = some (.int .i64 vm) := (lies_cell l5 2).trans rfl; have c16 : w9.cell? ⟨w.heap.size, 16, none⟩ = some (.bool true) := (lies_cell l0 16).trans (by show some (Value.bool s.ml.a) = _; rw [HBl.out]); have c12 : w9.cell? ⟨w.heap.size, 12, none⟩ = some (.bool true) := (lies_cell l0 12).trans (by show some (Value.bool s.mr.a) = _; rw [HBr.out])) | (go_at_call 69; refine (DW _).mono ?_; rintro e w' ⟨rfl, hw9⟩; have hw9 := hw9.symm; subst hw9) | ((with_reducible show wpList _ _ _ (⟨none, Op.store 3 (Operand.tmp 80) _, _, _, _, _⟩ :: _) _ _); refine wpList_putA rfl _ _ _ rfl rfl _ 0 3 [.int .i64 q] _ _ rfl rfl l5 rfl (by kernel_rfl) (by kernel_rfl) (by kernel_rfl) ?_; intro w9 p9 l9 n9; replace l5 := l9.trans (congrArg (fun c => some (Obj.cells c 27 (0, 0))) (show _ = (#[.int .i64 q, .int .i64 cw, .int .i64 vm] : Array Value) by kernel_rfl)); replace l0 := p9.lies l0 (by omega); replace l1 := p9.lies l1 (by omega); replace bel := p9.below bel (by omega); clear l9 n9 p9; have d0 : w9.cell? ⟨p, 0, none⟩ = some (.int .i64 q) := (lies_cell l5 0).trans rfl) | ((with_reducible show wpList _ _ _ (⟨none, Op.store 3 (Operand.tmp 106) _, _, _, _, _⟩ :: _) _ _); refine wpList_putA rfl _ _ _ rfl rfl _ 2 3 [.int .i64 (b - eg0 - cw - q)] _ _ rfl rfl l5 rfl (by kernel_rfl) (by kernel_rfl) (by kernel_rfl) ?_; intro w9 p9 l9 n9; replace l5 := l9.trans (congrArg (fun c => some (Obj.cells c 27 (0, 0))) (show _ = (#[.int .i64 q, .int .i64 cw, .int .i64 (b - eg0 - cw - q)] : Array Value) by kernel_rfl)); replace l0 := p9.lies l0 (by omega); replace l1 := p9.lies l1 (by omega); replace bel := p9.below bel (by omega); clear l9 n9 p9) | ((with_reducible show wpList _ _ _ (⟨some 107, Op.load 27 _, _, _, _, _⟩ :: _) _ _); refine wpList_load_row rfl 27 _ rfl (p) rfl _ (#[.int .i64 q, .int .i64 cw, .int .i64 (b - eg0 - cw - q)]) _ _ l5 Tryd.underlying27 rfl (by kernel_rfl) ?_) | ((with_reducible show wpList _ _ _ (⟨none, Op.store 27 (Operand.tmp 4) (Operand.tmp 107), _, _, _, _⟩ :: _) _ _); refine wpList_putA rfl _ _ _ rfl rfl _ 0 3 [.int .i64 q, .int .i64 cw, .int .i64 (b - eg0 - cw - q)] _ _ rfl rfl l1 rfl (by kernel_rfl) (by kernel_rfl) (by kernel_rfl) ?_; intro w9 p9 l9 n9; replace l1 := l9.trans (congrArg (fun c => some (Obj.cells c 27 (0, 0))) (show _ = (#[.int .i64 q, .int .i64 cw, .int .i64 (b - eg0 - cw - q)] : Array Value) by kernel_rfl)); replace bel := p9.below bel (by omega); clear l9 n9 p9))
            exact bodyPost_ret (v := .agg #[.int .i64 q, .int .i64 cw, .int .i64 (b - eg0 - cw - q)]) (results_cell_row Tryd.results31 _ _ _ _ (#[.int .i64 q, .int .i64 cw, .int .i64 (b - eg0 - cw - q)]) _ _ rfl l1 Tryd.underlying27 rfl (by kernel_rfl)) rfl ⟨by rw [HE.out], bel⟩
          · have HE : Hid (zl = vl) := by show _ = _; rw [HL.out, if_neg (fun h => hc h.2), if_neg (fun h => hq h.2.2), if_neg (fun h => by rw [hr] at h; exact absurd h.2.1 (by decide))]
            have HBl : Hid (s.ml.a = true) := hl
            have HBr : Hid (s.mr.a = true) := hr
            clear HL HC HX HX3 hw hl hr
            go_wp2_with (first | (go_at_call 68; refine (C1 _).mono ?_; rintro e w' ⟨rfl, hw9⟩; have hw9 := hw9.symm; subst hw9) | ((with_reducible show wpList _ _ _ (⟨none, Op.store 3 (Operand.tmp 60) _, _, _, _, _⟩ :: _) _ _); refine wpList_putA rfl _ _ _ rfl rfl _ 1 3 [.int .i64 cw] _ _ rfl rfl l5 rfl (by kernel_rfl) (by kernel_rfl) (by kernel_rfl) ?_; intro w9 p9 l9 n9; replace l5 := l9.trans (congrArg (fun c => some (Obj.cells c 27 (0, 0))) (show _ = (#[.int .i64 vl, .int .i64 cw, .int .i64 vm] : Array Value) by kernel_rfl)); replace l0 := p9.lies l0 (by omega); replace l1 := p9.lies l1 (by omega); replace bel := p9.below bel (by omega); clear l9 n9 p9; have d1 : w9.cell? ⟨p, 1, none⟩ = some (.int .i64 cw) := (lies_cell l5 1).trans rfl; have d0 : w9.cell? ⟨p, 0, none⟩ = some (.int .i64 vl) := (lies_cell l5 0).trans rfl; have d2 : w9.cell? ⟨p, 2, none⟩ = some (.int .i64 vm) := (lies_cell l5 2).trans rfl; have c16 : w9.cell? ⟨w.heap.size, 16, none⟩ = some (.bool true) := (lies_cell l0 16).trans (by show some (Value.bool s.ml.a) = _; rw [HBl.out]); have c12 : w9.cell? ⟨w.heap.size, 12, none⟩ = some (.bool true) := (lies_cell l0 12).trans (by show some (Value.bool s.mr.a) = _; rw [HBr.out])) | ((with_reducible show wpList _ _ _ (⟨none, Op.store 3 (Operand.tmp 106) _, _, _, _, _⟩ :: _) _ _); refine wpList_putA rfl _ _ _ rfl rfl _ 2 3 [.int .i64 (b - eg0 - cw - vl)] _ _ rfl rfl l5 rfl (by kernel_rfl) (by kernel_rfl) (by kernel_rfl) ?_; intro w9 p9 l9 n9; replace l5 := l9.trans (congrArg (fun c => some (Obj.cells c 27 (0, 0))) (show _ = (#[.int .i64 vl, .int .i64 cw, .int .i64 (b - eg0 - cw - vl)] : Array Value) by kernel_rfl)); replace l0 := p9.lies l0 (by omega); replace l1 := p9.lies l1 (by omega); replace bel := p9.below bel (by omega); clear l9 n9 p9) | ((with_reducible show wpList _ _ _ (⟨some 107, Op.load 27 _, _, _, _, _⟩ :: _) _ _); refine wpList_load_row rfl 27 _ rfl (p) rfl _ (#[.int .i64 vl, .int .i64 cw, .int .i64 (b - eg0 - cw - vl)]) _ _ l5 Tryd.underlying27 rfl (by kernel_rfl) ?_) | ((with_reducible show wpList _ _ _ (⟨none, Op.store 27 (Operand.tmp 4) (Operand.tmp 107), _, _, _, _⟩ :: _) _ _); refine wpList_putA rfl _ _ _ rfl rfl _ 0 3 [.int .i64 vl, .int .i64 cw, .int .i64 (b - eg0 - cw - vl)] _ _ rfl rfl l1 rfl (by kernel_rfl) (by kernel_rfl) (by kernel_rfl) ?_; intro w9 p9 l9 n9; replace l1 := l9.trans (congrArg (fun c => some (Obj.cells c 27 (0, 0))) (show _ = (#[.int .i64 vl, .int .i64 cw, .int .i64 (b - eg0 - cw - vl)] : Array Value) by kernel_rfl)); replace bel := p9.below bel (by omega); clear l9 n9 p9))
            exact bodyPost_ret (v := .agg #[.int .i64 vl, .int .i64 cw, .int .i64 (b - eg0 - cw - vl)]) (results_cell_row Tryd.results31 _ _ _ _ (#[.int .i64 vl, .int .i64 cw, .int .i64 (b - eg0 - cw - vl)]) _ _ rfl l1 Tryd.underlying27 rfl (by kernel_rfl)) rfl ⟨by rw [HE.out], bel⟩
        · by_cases hq : vm ≤ b - eg0 - cw
          · have HE : Hid (zl = b - eg0 - cw - vm) := by show _ = _; rw [HL.out, if_neg (fun h => hc h.2), if_neg (fun h => by rw [hr] at h; exact absurd h.2.1 (by decide)), if_pos ⟨hl, hr, hq⟩]
            have HBl : Hid (s.ml.a = true) := hl
            have HBr : Hid (s.mr.a = false) := hr
            clear HL HC HX HX3 hw hl hr
            go_wp2_with (first | (go_at_call 68; refine (C1 _).mono ?_; rintro e w' ⟨rfl, hw9⟩; have hw9 := hw9.symm; subst hw9) | ((with_reducible show wpList _ _ _ (⟨none, Op.store 3 (Operand.tmp 60) _, _, _, _, _⟩ :: _) _ _); refine wpList_putA rfl _ _ _ rfl rfl _ 1 3 [.int .i64 cw] _ _ rfl rfl l5 rfl (by kernel_rfl) (by kernel_rfl) (by kernel_rfl) ?_; intro w9 p9 l9 n9; replace l5 := l9.trans (congrArg (fun c => some (Obj.cells c 27 (0, 0))) (show _ = (#[.int .i64 vl, .int .i64 cw, .int .i64 vm] : Array Value) by kernel_rfl)); replace l0 := p9.lies l0 (by omega); replace l1 := p9.lies l1 (by omega); replace bel := p9.below bel (by omega); clear l9 n9 p9; have d1 : w9.cell? ⟨p, 1, none⟩ = some (.int .i64 cw) := (lies_cell l5 1).trans rfl; have d0 : w9.cell? ⟨p, 0, none⟩ = some (.int .i64 vl) := (lies_cell l5 0).trans rfl; have d2 : w9.cell? ⟨p, 2, none⟩ = some (.int .i64 vm) := (lies_cell l5 2).trans rfl; have c16 : w9.cell? ⟨w.heap.size, 16, none⟩ = some (.bool true) := (lies_cell l0 16).trans (by show some (Value.bool s.ml.a) = _; rw [HBl.out]); have c12 : w9.cell? ⟨w.heap.size, 12, none⟩ = some (.bool false) := (lies_cell l0 12).trans (by show some (Value.bool s.mr.a) = _; rw [HBr.out])) | ((with_reducible show wpList _ _ _ (⟨none, Op.store 3 (Operand.tmp 101) _, _, _, _, _⟩ :: _) _ _); refine wpList_putA rfl _ _ _ rfl rfl _ 0 3 [.int .i64 (b - eg0 - cw - vm)] _ _ rfl rfl l5 rfl (by kernel_rfl) (by kernel_rfl) (by kernel_rfl) ?_; intro w9 p9 l9 n9; replace l5 := l9.trans (congrArg (fun c => some (Obj.cells c 27 (0, 0))) (show _ = (#[.int .i64 (b - eg0 - cw - vm), .int .i64 cw, .int .i64 vm] : Array Value) by kernel_rfl)); replace l0 := p9.lies l0 (by omega); replace l1 := p9.lies l1 (by omega); replace bel := p9.below bel (by omega); clear l9 n9 p9; have d0 : w9.cell? ⟨p, 0, none⟩ = some (.int .i64 (b - eg0 - cw - vm)) := (lies_cell l5 0).trans rfl) | ((with_reducible show wpList _ _ _ (⟨none, Op.store 3 (Operand.tmp 106) _, _, _, _, _⟩ :: _) _ _); refine wpList_putA rfl _ _ _ rfl rfl _ 2 3 [.int .i64 (b - eg0 - cw - (b - eg0 - cw - vm))] _ _ rfl rfl l5 rfl (by kernel_rfl) (by kernel_rfl) (by kernel_rfl) ?_; intro w9 p9 l9 n9; replace l5 := l9.trans (congrArg (fun c => some (Obj.cells c 27 (0, 0))) (show _ = (#[.int .i64 (b - eg0 - cw - vm), .int .i64 cw, .int .i64 (b - eg0 - cw - (b - eg0 - cw - vm))] : Array Value) by kernel_rfl)); replace l0 := p9.lies l0 (by omega); replace l1 := p9.lies l1 (by omega); replace bel := p9.below bel (by omega); clear l9 n9 p9) | ((with_reducible show wpList _ _ _ (⟨some 107, Op.load 27 _, _, _, _, _⟩ :: _) _ _); refine wpList_load_row rfl 27 _ rfl (p) rfl _ (#[.int .i64 (b - eg0 - cw - vm), .int .i64 cw, .int .i64 (b - eg0 - cw - (b - eg0 - cw - vm))]) _ _ l5 Tryd.underlying27 rfl (by kernel_rfl) ?_) | ((with_reducible show wpList _ _ _ (⟨none, Op.store 27 (Operand.tmp 4) (Operand.tmp 107), _, _, _, _⟩ :: _) _ _); refine wpList_putA rfl _ _ _ rfl rfl _ 0 3 [.int .i64 (b - eg0 - cw - vm), .int .i64 cw, .int .i64 (b - eg0 - cw - (b - eg0 - cw - vm))] _ _ rfl rfl l1 rfl (by kernel_rfl) (by kernel_rfl) (by kernel_rfl) ?_; intro w9 p9 l9 n9; replace l1 := l9.trans (congrArg (fun c => some (Obj.cells c 27 (0, 0))) (show _ = (#[.int .i64 (b - eg0 - cw - vm), .int .i64 cw, .int .i64 (b - eg0 - cw - (b - eg0 - cw - vm))] : Array Value) by kernel_rfl)); replace bel := p9.below bel (by omega); clear l9 n9 p9))
            exact bodyPost_ret (v := .agg #[.int .i64 (b - eg0 - cw - vm), .int .i64 cw, .int .i64 (b - eg0 - cw - (b - eg0 - cw - vm))]) (results_cell_row Tryd.results31 _ _ _ _ (#[.int .i64 (b - eg0 - cw - vm), .int .i64 cw, .int .i64 (b - eg0 - cw - (b - eg0 - cw - vm))]) _ _ rfl l1 Tryd.underlying27 rfl (by kernel_rfl)) rfl ⟨by rw [HE.out], bel⟩
          · have HE : Hid (zl = vl) := by show _ = _; rw [HL.out, if_neg (fun h => hc h.2), if_neg (fun h => by rw [hr] at h; exact absurd h.2.1 (by decide)), if_neg (fun h => hq h.2.2)]
            have HBl : Hid (s.ml.a = true) := hl
            have HBr : Hid (s.mr.a = false) := hr
            clear HL HC HX HX3 hw hl hr
            go_wp2_with (first | (go_at_call 68; refine (C1 _).mono ?_; rintro e w' ⟨rfl, hw9⟩; have hw9 := hw9.symm; subst hw9) | ((with_reducible show wpList _ _ _ (⟨none, Op.store 3 (Operand.tmp 60) _, _, _, _, _⟩ :: _) _ _); refine wpList_putA rfl _ _ _ rfl rfl _ 1 3 [.int .i64 cw] _ _ rfl rfl l5 rfl (by kernel_rfl) (by kernel_rfl) (by kernel_rfl) ?_; intro w9 p9 l9 n9; replace l5 := l9.trans (congrArg (fun c => some (Obj.cells c 27 (0, 0))) (show _ = (#[.int .i64 vl, .int .i64 cw, .int .i64 vm] : Array Value) by kernel_rfl)); replace l0 := p9.lies l0 (by omega); replace l1 := p9.lies l1 (by omega); replace bel := p9.below bel (by omega); clear l9 n9 p9; have d1 : w9.cell? ⟨p, 1, none⟩ = some (.int .i64 cw) := (lies_cell l5 1).trans rfl; have d0 : w9.cell? ⟨p, 0, none⟩ = some (.int .i64 vl) := (lies_cell l5 0).trans rfl; have d2 : w9.cell? ⟨p, 2, none⟩ = some (.int .i64 vm) := (lies_cell l5 2).trans rfl; have c16 : w9.cell? ⟨w.heap.size, 16, none⟩ = some (.bool true) := (lies_cell l0 16).trans (by show some (Value.bool s.ml.a) = _; rw [HBl.out]); have c12 : w9.cell? ⟨w.heap.size, 12, none⟩ = some (.bool false) := (lies_cell l0 12).trans (by show some (Value.bool s.mr.a) = _; rw [HBr.out])) | ((with_reducible show wpList _ _ _ (⟨none, Op.store 3 (Operand.tmp 106) _, _, _, _, _⟩ :: _) _ _); refine wpList_putA rfl _ _ _ rfl rfl _ 2 3 [.int .i64 (b - eg0 - cw - vl)] _ _ rfl rfl l5 rfl (by kernel_rfl) (by kernel_rfl) (by kernel_rfl) ?_; intro w9 p9 l9 n9; replace l5 := l9.trans (congrArg (fun c => some (Obj.cells c 27 (0, 0))) (show _ = (#[.int .i64 vl, .int .i64 cw, .int .i64 (b - eg0 - cw - vl)] : Array Value) by kernel_rfl)); replace l0 := p9.lies l0 (by omega); replace l1 := p9.lies l1 (by omega); replace bel := p9.below bel (by omega); clear l9 n9 p9) | ((with_reducible show wpList _ _ _ (⟨some 107, Op.load 27 _, _, _, _, _⟩ :: _) _ _); refine wpList_load_row rfl 27 _ rfl (p) rfl _ (#[.int .i64 vl, .int .i64 cw, .int .i64 (b - eg0 - cw - vl)]) _ _ l5 Tryd.underlying27 rfl (by kernel_rfl) ?_) | ((with_reducible show wpList _ _ _ (⟨none, Op.store 27 (Operand.tmp 4) (Operand.tmp 107), _, _, _, _⟩ :: _) _ _); refine wpList_putA rfl _ _ _ rfl rfl _ 0 3 [.int .i64 vl, .int .i64 cw, .int .i64 (b - eg0 - cw - vl)] _ _ rfl rfl l1 rfl (by kernel_rfl) (by kernel_rfl) (by kernel_rfl) ?_; intro w9 p9 l9 n9; replace l1 := l9.trans (congrArg (fun c => some (Obj.cells c 27 (0, 0))) (show _ = (#[.int .i64 vl, .int .i64 cw, .int .i64 (b - eg0 - cw - vl)] : Array Value) by kernel_rfl)); replace bel := p9.below bel (by omega); clear l9 n9 p9))
            exact bodyPost_ret (v := .agg #[.int .i64 vl, .int .i64 cw, .int .i64 (b - eg0 - cw - vl)]) (results_cell_row Tryd.results31 _ _ _ _ (#[.int .i64 vl, .int .i64 cw, .int .i64 (b - eg0 - cw - vl)]) _ _ rfl l1 Tryd.underlying27 rfl (by kernel_rfl)) rfl ⟨by rw [HE.out], bel⟩
      · have HE : Hid (zl = vl) := by show _ = _; rw [HL.out, if_neg (fun h => hc h.2), if_neg (fun h => by rw [hl] at h; exact absurd h.1 (by decide)), if_neg (fun h => by rw [hl] at h; exact absurd h.1 (by decide))]
        have HBl : Hid (s.ml.a = false) := hl
        clear HL HC HX HX3 hw hl
        go_wp2_with (first | (go_at_call 68; refine (C1 _).mono ?_; rintro e w' ⟨rfl, hw9⟩; have hw9 := hw9.symm; subst hw9) | ((with_reducible show wpList _ _ _ (⟨none, Op.store 3 (Operand.tmp 60) _, _, _, _, _⟩ :: _) _ _); refine wpList_putA rfl _ _ _ rfl rfl _ 1 3 [.int .i64 cw] _ _ rfl rfl l5 rfl (by kernel_rfl) (by kernel_rfl) (by kernel_rfl) ?_; intro w9 p9 l9 n9; replace l5 := l9.trans (congrArg (fun c => some (Obj.cells c 27 (0, 0))) (show _ = (#[.int .i64 vl, .int .i64 cw, .int .i64 vm] : Array Value) by kernel_rfl)); replace l0 := p9.lies l0 (by omega); replace l1 := p9.lies l1 (by omega); replace bel := p9.below bel (by omega); clear l9 n9 p9; have d1 : w9.cell? ⟨p, 1, none⟩ = some (.int .i64 cw) := (lies_cell l5 1).trans rfl; have d0 : w9.cell? ⟨p, 0, none⟩ = some (.int .i64 vl) := (lies_cell l5 0).trans rfl; have d2 : w9.cell? ⟨p, 2, none⟩ = some (.int .i64 vm) := (lies_cell l5 2).trans rfl; have c16 : w9.cell? ⟨w.heap.size, 16, none⟩ = some (.bool false) := (lies_cell l0 16).trans (by show some (Value.bool s.ml.a) = _; rw [HBl.out])) | ((with_reducible show wpList _ _ _ (⟨none, Op.store 3 (Operand.tmp 106) _, _, _, _, _⟩ :: _) _ _); refine wpList_putA rfl _ _ _ rfl rfl _ 2 3 [.int .i64 (b - eg0 - cw - vl)] _ _ rfl rfl l5 rfl (by kernel_rfl) (by kernel_rfl) (by kernel_rfl) ?_; intro w9 p9 l9 n9; replace l5 := l9.trans (congrArg (fun c => some (Obj.cells c 27 (0, 0))) (show _ = (#[.int .i64 vl, .int .i64 cw, .int .i64 (b - eg0 - cw - vl)] : Array Value) by kernel_rfl)); replace l0 := p9.lies l0 (by omega); replace l1 := p9.lies l1 (by omega); replace bel := p9.below bel (by omega); clear l9 n9 p9) | ((with_reducible show wpList _ _ _ (⟨some 107, Op.load 27 _, _, _, _, _⟩ :: _) _ _); refine wpList_load_row rfl 27 _ rfl (p) rfl _ (#[.int .i64 vl, .int .i64 cw, .int .i64 (b - eg0 - cw - vl)]) _ _ l5 Tryd.underlying27 rfl (by kernel_rfl) ?_) | ((with_reducible show wpList _ _ _ (⟨none, Op.store 27 (Operand.tmp 4) (Operand.tmp 107), _, _, _, _⟩ :: _) _ _); refine wpList_putA rfl _ _ _ rfl rfl _ 0 3 [.int .i64 vl, .int .i64 cw, .int .i64 (b - eg0 - cw - vl)] _ _ rfl rfl l1 rfl (by kernel_rfl) (by kernel_rfl) (by kernel_rfl) ?_; intro w9 p9 l9 n9; replace l1 := l9.trans (congrArg (fun c => some (Obj.cells c 27 (0, 0))) (show _ = (#[.int .i64 vl, .int .i64 cw, .int .i64 (b - eg0 - cw - vl)] : Array Value) by kernel_rfl)); replace bel := p9.below bel (by omega); clear l9 n9 p9))
        exact bodyPost_ret (v := .agg #[.int .i64 vl, .int .i64 cw, .int .i64 (b - eg0 - cw - vl)]) (results_cell_row Tryd.results31 _ _ _ _ (#[.int .i64 vl, .int .i64 cw, .int .i64 (b - eg0 - cw - vl)]) _ _ rfl l1 Tryd.underlying27 rfl (by kernel_rfl)) rfl ⟨by rw [HE.out], bel⟩
  · have c3 : w3.cell? ⟨w.heap.size, 3, none⟩ = some (.bool false) := (lies_cell l0 3).trans (by show some (Value.bool s.w.a) = _; rw [hw])
    have HX2 : x0 = vd := by rw [HX.out, if_neg (by rw [hw]; decide)]
    have C1 := fun w => clampS x0 s.mn s.mx w
    rw [HC.out, HX2] at C1
    clear C0 HX2
    rcases Bool.eq_false_or_eq_true s.ml.a with hl | hl
    · rcases Bool.eq_false_or_eq_true s.mr.a with hr | hr
      · by_cases hq : 0 ≤ b - eg0 - cw
        · have DW := fun w => down_any (b - eg0 - cw) w (by omega) (by omega)
          have HE : Hid (zl = down (b - eg0 - cw) 2) := by show _ = _; rw [HL.out, if_neg (fun h => by rw [hw] at h; exact absurd h.1 (by decide)), if_pos ⟨hl, hr, hq⟩]
          have DB : -1000000000 ≤ down (b - eg0 - cw) 2 ∧ down (b - eg0 - cw) 2 ≤ 1000000000 := by rw [down2]; omega
          obtain ⟨db1, db2⟩ := DB
          generalize down (b - eg0 - cw) 2 = q at DW HE db1 db2
          have HBl : Hid (s.ml.a = true) := hl
          have HBr : Hid (s.mr.a = true) := hr
          clear HL HC HX hw hl hr
          go_wp2_with (first | (go_at_call 68; refine (C1 _).mono ?_; rintro e w' ⟨rfl, hw9⟩; have hw9 := hw9.symm; subst hw9) | ((with_reducible show wpList _ _ _ (⟨none, Op.store 3 (Operand.tmp 60) _, _, _, _, _⟩ :: _) _ _); refine wpList_putA rfl _ _ _ rfl rfl _ 1 3 [.int .i64 cw] _ _ rfl rfl l5 rfl (by kernel_rfl) (by kernel_rfl) (by kernel_rfl) ?_; intro w9 p9 l9 n9; replace l5 := l9.trans (congrArg (fun c => some (Obj.cells c 27 (0, 0))) (show _ = (#[.int .i64 vl, .int .i64 cw, .int .i64 vm] : Array Value) by kernel_rfl)); replace l0 := p9.lies l0 (by omega); replace l1 := p9.lies l1 (by omega); replace bel := p9.below bel (by omega); clear l9 n9 p9; have d1 : w9.cell? ⟨p, 1, none⟩ = some (.int .i64 cw) := (lies_cell l5 1).trans rfl; have d0 : w9.cell? ⟨p, 0, none⟩ = some (.int .i64 vl) := (lies_cell l5 0).trans rfl; have d2 : w9.cell? ⟨p, 2, none⟩ = some (.int .i64 vm) := (lies_cell l5 2).trans rfl; have c16 : w9.cell? ⟨w.heap.size, 16, none⟩ = some (.bool true) := (lies_cell l0 16).trans (by show some (Value.bool s.ml.a) = _; rw [HBl.out]); have c12 : w9.cell? ⟨w.heap.size, 12, none⟩ = some (.bool true) := (lies_cell l0 12).trans (by show some (Value.bool s.mr.a) = _; rw [HBr.out])) | (go_at_call 69; refine (DW _).mono ?_; rintro e w' ⟨rfl, hw9⟩; have hw9 := hw9.symm; subst hw9) | ((with_reducible show wpList _ _ _ (⟨none, Op.store 3 (Operand.tmp 80) _, _, _, _, _⟩ :: _) _ _); refine wpList_putA rfl _ _ _ rfl rfl _ 0 3 [.int .i64 q] _ _ rfl rfl l5 rfl (by kernel_rfl) (by kernel_rfl) (by kernel_rfl) ?_; intro w9 p9 l9 n9; replace l5 := l9.trans (congrArg (fun c => some (Obj.cells c 27 (0, 0))) (show _ = (#[.int .i64 q, .int .i64 cw, .int .i64 vm] : Array Value) by kernel_rfl)); replace l0 := p9.lies l0 (by omega); replace l1 := p9.lies l1 (by omega); replace bel := p9.below bel (by omega); clear l9 n9 p9; have d0 : w9.cell? ⟨p, 0, none⟩ = some (.int .i64 q) := (lies_cell l5 0).trans rfl) | ((with_reducible show wpList _ _ _ (⟨none, Op.store 3 (Operand.tmp 106) _, _, _, _, _⟩ :: _) _ _); refine wpList_putA rfl _ _ _ rfl rfl _ 2 3 [.int .i64 (b - eg0 - cw - q)] _ _ rfl rfl l5 rfl (by kernel_rfl) (by kernel_rfl) (by kernel_rfl) ?_; intro w9 p9 l9 n9; replace l5 := l9.trans (congrArg (fun c => some (Obj.cells c 27 (0, 0))) (show _ = (#[.int .i64 q, .int .i64 cw, .int .i64 (b - eg0 - cw - q)] : Array Value) by kernel_rfl)); replace l0 := p9.lies l0 (by omega); replace l1 := p9.lies l1 (by omega); replace bel := p9.below bel (by omega); clear l9 n9 p9) | ((with_reducible show wpList _ _ _ (⟨some 107, Op.load 27 _, _, _, _, _⟩ :: _) _ _); refine wpList_load_row rfl 27 _ rfl (p) rfl _ (#[.int .i64 q, .int .i64 cw, .int .i64 (b - eg0 - cw - q)]) _ _ l5 Tryd.underlying27 rfl (by kernel_rfl) ?_) | ((with_reducible show wpList _ _ _ (⟨none, Op.store 27 (Operand.tmp 4) (Operand.tmp 107), _, _, _, _⟩ :: _) _ _); refine wpList_putA rfl _ _ _ rfl rfl _ 0 3 [.int .i64 q, .int .i64 cw, .int .i64 (b - eg0 - cw - q)] _ _ rfl rfl l1 rfl (by kernel_rfl) (by kernel_rfl) (by kernel_rfl) ?_; intro w9 p9 l9 n9; replace l1 := l9.trans (congrArg (fun c => some (Obj.cells c 27 (0, 0))) (show _ = (#[.int .i64 q, .int .i64 cw, .int .i64 (b - eg0 - cw - q)] : Array Value) by kernel_rfl)); replace bel := p9.below bel (by omega); clear l9 n9 p9))
          exact bodyPost_ret (v := .agg #[.int .i64 q, .int .i64 cw, .int .i64 (b - eg0 - cw - q)]) (results_cell_row Tryd.results31 _ _ _ _ (#[.int .i64 q, .int .i64 cw, .int .i64 (b - eg0 - cw - q)]) _ _ rfl l1 Tryd.underlying27 rfl (by kernel_rfl)) rfl ⟨by rw [HE.out], bel⟩
        · have HE : Hid (zl = vl) := by show _ = _; rw [HL.out, if_neg (fun h => by rw [hw] at h; exact absurd h.1 (by decide)), if_neg (fun h => hq h.2.2), if_neg (fun h => by rw [hr] at h; exact absurd h.2.1 (by decide))]
          have HBl : Hid (s.ml.a = true) := hl
          have HBr : Hid (s.mr.a = true) := hr
          clear HL HC HX hw hl hr
          go_wp2_with (first | (go_at_call 68; refine (C1 _).mono ?_; rintro e w' ⟨rfl, hw9⟩; have hw9 := hw9.symm; subst hw9) | ((with_reducible show wpList _ _ _ (⟨none, Op.store 3 (Operand.tmp 60) _, _, _, _, _⟩ :: _) _ _); refine wpList_putA rfl _ _ _ rfl rfl _ 1 3 [.int .i64 cw] _ _ rfl rfl l5 rfl (by kernel_rfl) (by kernel_rfl) (by kernel_rfl) ?_; intro w9 p9 l9 n9; replace l5 := l9.trans (congrArg (fun c => some (Obj.cells c 27 (0, 0))) (show _ = (#[.int .i64 vl, .int .i64 cw, .int .i64 vm] : Array Value) by kernel_rfl)); replace l0 := p9.lies l0 (by omega); replace l1 := p9.lies l1 (by omega); replace bel := p9.below bel (by omega); clear l9 n9 p9; have d1 : w9.cell? ⟨p, 1, none⟩ = some (.int .i64 cw) := (lies_cell l5 1).trans rfl; have d0 : w9.cell? ⟨p, 0, none⟩ = some (.int .i64 vl) := (lies_cell l5 0).trans rfl; have d2 : w9.cell? ⟨p, 2, none⟩ = some (.int .i64 vm) := (lies_cell l5 2).trans rfl; have c16 : w9.cell? ⟨w.heap.size, 16, none⟩ = some (.bool true) := (lies_cell l0 16).trans (by show some (Value.bool s.ml.a) = _; rw [HBl.out]); have c12 : w9.cell? ⟨w.heap.size, 12, none⟩ = some (.bool true) := (lies_cell l0 12).trans (by show some (Value.bool s.mr.a) = _; rw [HBr.out])) | ((with_reducible show wpList _ _ _ (⟨none, Op.store 3 (Operand.tmp 106) _, _, _, _, _⟩ :: _) _ _); refine wpList_putA rfl _ _ _ rfl rfl _ 2 3 [.int .i64 (b - eg0 - cw - vl)] _ _ rfl rfl l5 rfl (by kernel_rfl) (by kernel_rfl) (by kernel_rfl) ?_; intro w9 p9 l9 n9; replace l5 := l9.trans (congrArg (fun c => some (Obj.cells c 27 (0, 0))) (show _ = (#[.int .i64 vl, .int .i64 cw, .int .i64 (b - eg0 - cw - vl)] : Array Value) by kernel_rfl)); replace l0 := p9.lies l0 (by omega); replace l1 := p9.lies l1 (by omega); replace bel := p9.below bel (by omega); clear l9 n9 p9) | ((with_reducible show wpList _ _ _ (⟨some 107, Op.load 27 _, _, _, _, _⟩ :: _) _ _); refine wpList_load_row rfl 27 _ rfl (p) rfl _ (#[.int .i64 vl, .int .i64 cw, .int .i64 (b - eg0 - cw - vl)]) _ _ l5 Tryd.underlying27 rfl (by kernel_rfl) ?_) | ((with_reducible show wpList _ _ _ (⟨none, Op.store 27 (Operand.tmp 4) (Operand.tmp 107), _, _, _, _⟩ :: _) _ _); refine wpList_putA rfl _ _ _ rfl rfl _ 0 3 [.int .i64 vl, .int .i64 cw, .int .i64 (b - eg0 - cw - vl)] _ _ rfl rfl l1 rfl (by kernel_rfl) (by kernel_rfl) (by kernel_rfl) ?_; intro w9 p9 l9 n9; replace l1 := l9.trans (congrArg (fun c => some (Obj.cells c 27 (0, 0))) (show _ = (#[.int .i64 vl, .int .i64 cw, .int .i64 (b - eg0 - cw - vl)] : Array Value) by kernel_rfl)); replace bel := p9.below bel (by omega); clear l9 n9 p9))
          exact bodyPost_ret (v := .agg #[.int .i64 vl, .int .i64 cw, .int .i64 (b - eg0 - cw - vl)]) (results_cell_row Tryd.results31 _ _ _ _ (#[.int .i64 vl, .int .i64 cw, .int .i64 (b - eg0 - cw - vl)]) _ _ rfl l1 Tryd.underlying27 rfl (by kernel_rfl)) rfl ⟨by rw [HE.out], bel⟩
      · by_cases hq : vm ≤ b - eg0 - cw
        · have HE : Hid (zl = b - eg0 - cw - vm) := by show _ = _; rw [HL.out, if_neg (fun h => by rw [hw] at h; exact absurd h.1 (by decide)), if_neg (fun h => by rw [hr] at h; exact absurd h.2.1 (by decide)), if_pos ⟨hl, hr, hq⟩]
          have HBl : Hid (s.ml.a = true) := hl
          have HBr : Hid (s.mr.a = false) := hr
          clear HL HC HX hw hl hr
          go_wp2_with (first | (go_at_call 68; refine (C1 _).mono ?_; rintro e w' ⟨rfl, hw9⟩; have hw9 := hw9.symm; subst hw9) | ((with_reducible show wpList _ _ _ (⟨none, Op.store 3 (Operand.tmp 60) _, _, _, _, _⟩ :: _) _ _); refine wpList_putA rfl _ _ _ rfl rfl _ 1 3 [.int .i64 cw] _ _ rfl rfl l5 rfl (by kernel_rfl) (by kernel_rfl) (by kernel_rfl) ?_; intro w9 p9 l9 n9; replace l5 := l9.trans (congrArg (fun c => some (Obj.cells c 27 (0, 0))) (show _ = (#[.int .i64 vl, .int .i64 cw, .int .i64 vm] : Array Value) by kernel_rfl)); replace l0 := p9.lies l0 (by omega); replace l1 := p9.lies l1 (by omega); replace bel := p9.below bel (by omega); clear l9 n9 p9; have d1 : w9.cell? ⟨p, 1, none⟩ = some (.int .i64 cw) := (lies_cell l5 1).trans rfl; have d0 : w9.cell? ⟨p, 0, none⟩ = some (.int .i64 vl) := (lies_cell l5 0).trans rfl; have d2 : w9.cell? ⟨p, 2, none⟩ = some (.int .i64 vm) := (lies_cell l5 2).trans rfl; have c16 : w9.cell? ⟨w.heap.size, 16, none⟩ = some (.bool true) := (lies_cell l0 16).trans (by show some (Value.bool s.ml.a) = _; rw [HBl.out]); have c12 : w9.cell? ⟨w.heap.size, 12, none⟩ = some (.bool false) := (lies_cell l0 12).trans (by show some (Value.bool s.mr.a) = _; rw [HBr.out])) | ((with_reducible show wpList _ _ _ (⟨none, Op.store 3 (Operand.tmp 101) _, _, _, _, _⟩ :: _) _ _); refine wpList_putA rfl _ _ _ rfl rfl _ 0 3 [.int .i64 (b - eg0 - cw - vm)] _ _ rfl rfl l5 rfl (by kernel_rfl) (by kernel_rfl) (by kernel_rfl) ?_; intro w9 p9 l9 n9; replace l5 := l9.trans (congrArg (fun c => some (Obj.cells c 27 (0, 0))) (show _ = (#[.int .i64 (b - eg0 - cw - vm), .int .i64 cw, .int .i64 vm] : Array Value) by kernel_rfl)); replace l0 := p9.lies l0 (by omega); replace l1 := p9.lies l1 (by omega); replace bel := p9.below bel (by omega); clear l9 n9 p9; have d0 : w9.cell? ⟨p, 0, none⟩ = some (.int .i64 (b - eg0 - cw - vm)) := (lies_cell l5 0).trans rfl) | ((with_reducible show wpList _ _ _ (⟨none, Op.store 3 (Operand.tmp 106) _, _, _, _, _⟩ :: _) _ _); refine wpList_putA rfl _ _ _ rfl rfl _ 2 3 [.int .i64 (b - eg0 - cw - (b - eg0 - cw - vm))] _ _ rfl rfl l5 rfl (by kernel_rfl) (by kernel_rfl) (by kernel_rfl) ?_; intro w9 p9 l9 n9; replace l5 := l9.trans (congrArg (fun c => some (Obj.cells c 27 (0, 0))) (show _ = (#[.int .i64 (b - eg0 - cw - vm), .int .i64 cw, .int .i64 (b - eg0 - cw - (b - eg0 - cw - vm))] : Array Value) by kernel_rfl)); replace l0 := p9.lies l0 (by omega); replace l1 := p9.lies l1 (by omega); replace bel := p9.below bel (by omega); clear l9 n9 p9) | ((with_reducible show wpList _ _ _ (⟨some 107, Op.load 27 _, _, _, _, _⟩ :: _) _ _); refine wpList_load_row rfl 27 _ rfl (p) rfl _ (#[.int .i64 (b - eg0 - cw - vm), .int .i64 cw, .int .i64 (b - eg0 - cw - (b - eg0 - cw - vm))]) _ _ l5 Tryd.underlying27 rfl (by kernel_rfl) ?_) | ((with_reducible show wpList _ _ _ (⟨none, Op.store 27 (Operand.tmp 4) (Operand.tmp 107), _, _, _, _⟩ :: _) _ _); refine wpList_putA rfl _ _ _ rfl rfl _ 0 3 [.int .i64 (b - eg0 - cw - vm), .int .i64 cw, .int .i64 (b - eg0 - cw - (b - eg0 - cw - vm))] _ _ rfl rfl l1 rfl (by kernel_rfl) (by kernel_rfl) (by kernel_rfl) ?_; intro w9 p9 l9 n9; replace l1 := l9.trans (congrArg (fun c => some (Obj.cells c 27 (0, 0))) (show _ = (#[.int .i64 (b - eg0 - cw - vm), .int .i64 cw, .int .i64 (b - eg0 - cw - (b - eg0 - cw - vm))] : Array Value) by kernel_rfl)); replace bel := p9.below bel (by omega); clear l9 n9 p9))
          exact bodyPost_ret (v := .agg #[.int .i64 (b - eg0 - cw - vm), .int .i64 cw, .int .i64 (b - eg0 - cw - (b - eg0 - cw - vm))]) (results_cell_row Tryd.results31 _ _ _ _ (#[.int .i64 (b - eg0 - cw - vm), .int .i64 cw, .int .i64 (b - eg0 - cw - (b - eg0 - cw - vm))]) _ _ rfl l1 Tryd.underlying27 rfl (by kernel_rfl)) rfl ⟨by rw [HE.out], bel⟩
        · have HE : Hid (zl = vl) := by show _ = _; rw [HL.out, if_neg (fun h => by rw [hw] at h; exact absurd h.1 (by decide)), if_neg (fun h => by rw [hr] at h; exact absurd h.2.1 (by decide)), if_neg (fun h => hq h.2.2)]
          have HBl : Hid (s.ml.a = true) := hl
          have HBr : Hid (s.mr.a = false) := hr
          clear HL HC HX hw hl hr
          go_wp2_with (first | (go_at_call 68; refine (C1 _).mono ?_; rintro e w' ⟨rfl, hw9⟩; have hw9 := hw9.symm; subst hw9) | ((with_reducible show wpList _ _ _ (⟨none, Op.store 3 (Operand.tmp 60) _, _, _, _, _⟩ :: _) _ _); refine wpList_putA rfl _ _ _ rfl rfl _ 1 3 [.int .i64 cw] _ _ rfl rfl l5 rfl (by kernel_rfl) (by kernel_rfl) (by kernel_rfl) ?_; intro w9 p9 l9 n9; replace l5 := l9.trans (congrArg (fun c => some (Obj.cells c 27 (0, 0))) (show _ = (#[.int .i64 vl, .int .i64 cw, .int .i64 vm] : Array Value) by kernel_rfl)); replace l0 := p9.lies l0 (by omega); replace l1 := p9.lies l1 (by omega); replace bel := p9.below bel (by omega); clear l9 n9 p9; have d1 : w9.cell? ⟨p, 1, none⟩ = some (.int .i64 cw) := (lies_cell l5 1).trans rfl; have d0 : w9.cell? ⟨p, 0, none⟩ = some (.int .i64 vl) := (lies_cell l5 0).trans rfl; have d2 : w9.cell? ⟨p, 2, none⟩ = some (.int .i64 vm) := (lies_cell l5 2).trans rfl; have c16 : w9.cell? ⟨w.heap.size, 16, none⟩ = some (.bool true) := (lies_cell l0 16).trans (by show some (Value.bool s.ml.a) = _; rw [HBl.out]); have c12 : w9.cell? ⟨w.heap.size, 12, none⟩ = some (.bool false) := (lies_cell l0 12).trans (by show some (Value.bool s.mr.a) = _; rw [HBr.out])) | ((with_reducible show wpList _ _ _ (⟨none, Op.store 3 (Operand.tmp 106) _, _, _, _, _⟩ :: _) _ _); refine wpList_putA rfl _ _ _ rfl rfl _ 2 3 [.int .i64 (b - eg0 - cw - vl)] _ _ rfl rfl l5 rfl (by kernel_rfl) (by kernel_rfl) (by kernel_rfl) ?_; intro w9 p9 l9 n9; replace l5 := l9.trans (congrArg (fun c => some (Obj.cells c 27 (0, 0))) (show _ = (#[.int .i64 vl, .int .i64 cw, .int .i64 (b - eg0 - cw - vl)] : Array Value) by kernel_rfl)); replace l0 := p9.lies l0 (by omega); replace l1 := p9.lies l1 (by omega); replace bel := p9.below bel (by omega); clear l9 n9 p9) | ((with_reducible show wpList _ _ _ (⟨some 107, Op.load 27 _, _, _, _, _⟩ :: _) _ _); refine wpList_load_row rfl 27 _ rfl (p) rfl _ (#[.int .i64 vl, .int .i64 cw, .int .i64 (b - eg0 - cw - vl)]) _ _ l5 Tryd.underlying27 rfl (by kernel_rfl) ?_) | ((with_reducible show wpList _ _ _ (⟨none, Op.store 27 (Operand.tmp 4) (Operand.tmp 107), _, _, _, _⟩ :: _) _ _); refine wpList_putA rfl _ _ _ rfl rfl _ 0 3 [.int .i64 vl, .int .i64 cw, .int .i64 (b - eg0 - cw - vl)] _ _ rfl rfl l1 rfl (by kernel_rfl) (by kernel_rfl) (by kernel_rfl) ?_; intro w9 p9 l9 n9; replace l1 := l9.trans (congrArg (fun c => some (Obj.cells c 27 (0, 0))) (show _ = (#[.int .i64 vl, .int .i64 cw, .int .i64 (b - eg0 - cw - vl)] : Array Value) by kernel_rfl)); replace bel := p9.below bel (by omega); clear l9 n9 p9))
          exact bodyPost_ret (v := .agg #[.int .i64 vl, .int .i64 cw, .int .i64 (b - eg0 - cw - vl)]) (results_cell_row Tryd.results31 _ _ _ _ (#[.int .i64 vl, .int .i64 cw, .int .i64 (b - eg0 - cw - vl)]) _ _ rfl l1 Tryd.underlying27 rfl (by kernel_rfl)) rfl ⟨by rw [HE.out], bel⟩
    · have HE : Hid (zl = vl) := by show _ = _; rw [HL.out, if_neg (fun h => by rw [hw] at h; exact absurd h.1 (by decide)), if_neg (fun h => by rw [hl] at h; exact absurd h.1 (by decide)), if_neg (fun h => by rw [hl] at h; exact absurd h.1 (by decide))]
      have HBl : Hid (s.ml.a = false) := hl
      clear HL HC HX hw hl
      go_wp2_with (first | (go_at_call 68; refine (C1 _).mono ?_; rintro e w' ⟨rfl, hw9⟩; have hw9 := hw9.symm; subst hw9) | ((with_reducible show wpList _ _ _ (⟨none, Op.store 3 (Operand.tmp 60) _, _, _, _, _⟩ :: _) _ _); refine wpList_putA rfl _ _ _ rfl rfl _ 1 3 [.int .i64 cw] _ _ rfl rfl l5 rfl (by kernel_rfl) (by kernel_rfl) (by kernel_rfl) ?_; intro w9 p9 l9 n9; replace l5 := l9.trans (congrArg (fun c => some (Obj.cells c 27 (0, 0))) (show _ = (#[.int .i64 vl, .int .i64 cw, .int .i64 vm] : Array Value) by kernel_rfl)); replace l0 := p9.lies l0 (by omega); replace l1 := p9.lies l1 (by omega); replace bel := p9.below bel (by omega); clear l9 n9 p9; have d1 : w9.cell? ⟨p, 1, none⟩ = some (.int .i64 cw) := (lies_cell l5 1).trans rfl; have d0 : w9.cell? ⟨p, 0, none⟩ = some (.int .i64 vl) := (lies_cell l5 0).trans rfl; have d2 : w9.cell? ⟨p, 2, none⟩ = some (.int .i64 vm) := (lies_cell l5 2).trans rfl; have c16 : w9.cell? ⟨w.heap.size, 16, none⟩ = some (.bool false) := (lies_cell l0 16).trans (by show some (Value.bool s.ml.a) = _; rw [HBl.out])) | ((with_reducible show wpList _ _ _ (⟨none, Op.store 3 (Operand.tmp 106) _, _, _, _, _⟩ :: _) _ _); refine wpList_putA rfl _ _ _ rfl rfl _ 2 3 [.int .i64 (b - eg0 - cw - vl)] _ _ rfl rfl l5 rfl (by kernel_rfl) (by kernel_rfl) (by kernel_rfl) ?_; intro w9 p9 l9 n9; replace l5 := l9.trans (congrArg (fun c => some (Obj.cells c 27 (0, 0))) (show _ = (#[.int .i64 vl, .int .i64 cw, .int .i64 (b - eg0 - cw - vl)] : Array Value) by kernel_rfl)); replace l0 := p9.lies l0 (by omega); replace l1 := p9.lies l1 (by omega); replace bel := p9.below bel (by omega); clear l9 n9 p9) | ((with_reducible show wpList _ _ _ (⟨some 107, Op.load 27 _, _, _, _, _⟩ :: _) _ _); refine wpList_load_row rfl 27 _ rfl (p) rfl _ (#[.int .i64 vl, .int .i64 cw, .int .i64 (b - eg0 - cw - vl)]) _ _ l5 Tryd.underlying27 rfl (by kernel_rfl) ?_) | ((with_reducible show wpList _ _ _ (⟨none, Op.store 27 (Operand.tmp 4) (Operand.tmp 107), _, _, _, _⟩ :: _) _ _); refine wpList_putA rfl _ _ _ rfl rfl _ 0 3 [.int .i64 vl, .int .i64 cw, .int .i64 (b - eg0 - cw - vl)] _ _ rfl rfl l1 rfl (by kernel_rfl) (by kernel_rfl) (by kernel_rfl) ?_; intro w9 p9 l9 n9; replace l1 := l9.trans (congrArg (fun c => some (Obj.cells c 27 (0, 0))) (show _ = (#[.int .i64 vl, .int .i64 cw, .int .i64 (b - eg0 - cw - vl)] : Array Value) by kernel_rfl)); replace bel := p9.below bel (by omega); clear l9 n9 p9))
      exact bodyPost_ret (v := .agg #[.int .i64 vl, .int .i64 cw, .int .i64 (b - eg0 - cw - vl)]) (results_cell_row Tryd.results31 _ _ _ _ (#[.int .i64 vl, .int .i64 cw, .int .i64 (b - eg0 - cw - vl)]) _ _ rfl l1 Tryd.underlying27 rfl (by kernel_rfl)) rfl ⟨by rw [HE.out], bel⟩
end Go.Proofs.YtijondjiehoafaaDoor
