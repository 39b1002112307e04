/-
  The model's l6Float: a float's widths.
-/
import Derived.Test.YtijondjiehoafaaDoorWdN
namespace Go.Proofs.YtijondjiehoafaaDoor
open Go.ChangeShapes Go.WideShapes Go.ChangeAt Go.RowKit
set_option linter.unusedVariables false

/-- As Sw, with the answer so far at p. -/
def Sv (s : St) (w : World) (p : Nat) (vl vm : Int) (W : World) : Prop := Sw s w W ∧ ∃ x : Int, W.heap[p]? = some (.cells #[.int .i64 vl, .int .i64 x, .int .i64 vm] 27 (0, 0))
theorem Sv_call {s : St} {w W W' : World} {p : Nat} {vl vm : Int} (h : Sv s w p vl vm W) (hb : Below W.heap.size W W') : Sv s w p vl vm W' := ⟨Sw_call h.1 hb, by obtain ⟨x, hx⟩ := h.2; exact ⟨x, below_lies hb hx (lies_lt hx)⟩⟩
theorem Sv_put {s : St} {w W W' : World} {p : Nat} {vl vm : Int} {x : Int} (h : Sv s w p vl vm W) (hp : Put p W W') (hne : w.heap.size + 1 < p) (hx : W'.heap[p]? = some (.cells #[.int .i64 vl, .int .i64 x, .int .i64 vm] 27 (0, 0))) : Sv s w p vl vm W' := ⟨Sw_put h.1 hp hne, x, hx⟩
theorem cl_max2 (n m : Int) : clZ n m (-1) = max n m := by unfold clZ; rw [if_neg (by omega)]
set_option maxRecDepth 100000 in
set_option maxHeartbeats 16000000 in
theorem l6Float_any (s : St) (b nr wi : Int) (w : World) (ha : okA s b = true) (h1 : inB 0 1000000 nr = true) (h2 : inB 0 1000000 wi = true) :
    Calls Tryd.prog 36 #[.agg #[.int .i64 s.sh, .int .i64 s.fl, .int .i64 s.cl, .bool s.w.a, .bool s.w.p, .int .i64 s.w.n, .bool s.h.a, .bool s.h.p, .int .i64 s.h.n, .int .i64 s.mn, .int .i64 s.mx, .int .i64 s.mt, .bool s.mr.a, .bool s.mr.p, .int .i64 s.mr.n, .int .i64 s.mb, .bool s.ml.a, .bool s.ml.p, .int .i64 s.ml.n, .int .i64 s.bo, .int .i64 s.pa, .int .i64 s.wh, .int .i64 s.al, .int .i64 s.lh, .int .i64 s.ri, .int .i64 s.dn], .int .i64 b, .int .i64 nr, .int .i64 wi] w fun e w' => e = .returned (.agg #[.int .i64 (mlN s b), .int .i64 (flW s b nr wi), .int .i64 (mrN s b)]) ∧ Below w.heap.size w w' := by
  obtain ⟨hs, hb0, i1, i2, i3⟩ := okA_yes ha
  obtain ⟨k1, k2⟩ := inB_yes hb0
  obtain ⟨k3, k4⟩ := inB_yes i1
  obtain ⟨k5, k6⟩ := inB_yes i3
  obtain ⟨k7, k8⟩ := inB_yes i2
  obtain ⟨m1, m2⟩ := inB_yes h1
  obtain ⟨m3, m4⟩ := inB_yes h2
  obtain ⟨z1, z2, z3⟩ := style_sz hs
  have L := fun w => l6Size_any s.ml.a s.ml.p s.ml.n b w k1 k2 (szB_bd z1).1 (szB_bd z1).2
  have M := fun w => l6Size_any s.mr.a s.mr.p s.mr.n b w k1 k2 (szB_bd z2).1 (szB_bd z2).2
  have D := fun w => l6Size_any s.w.a s.w.p s.w.n b w k1 k2 (szB_bd z3).1 (szB_bd z3).2
  rw [show szN s.ml.p s.ml.n b = mlN s b from rfl] at L
  rw [show szN s.mr.p s.mr.n b = mrN s b from rfl] at M
  rw [show szN s.w.p s.w.n b = wdN s b from rfl] at D
  have ED := fun w => edge_any s w hs
  obtain ⟨g1, g2⟩ := eg_bd hs
  have C0 : ∀ w, Calls Tryd.prog 68 #[.int .i64 (b - eg s - mlN s b - mrN s b), .int .i64 nr, .int .i64 (-1)] w fun e w' => e = .returned (.int .i64 (max (b - eg s - mlN s b - mrN s b) nr)) ∧ Below w.heap.size w w' := fun w => by
    have h := clampS (b - eg s - mlN s b - mrN s b) nr (-1) w
    rw [cl_max2] at h
    exact h.mono fun e w' hh => ⟨hh.1, by rw [hh.2]; exact Below.refl _ _⟩
  have HC : Hid (clZ (flW0 s b nr wi) s.mn s.mx = flW s b nr wi) := rfl
  have HX : Hid (flW0 s b nr wi = if s.w.a then min wi (max nr (b - eg s - mlN s b - mrN s b)) else wdN s b) := rfl
  generalize hxx : flW0 s b nr wi = x0 at HC HX
  generalize hcw : flW s b nr wi = cw at HC ⊢
  generalize heg : eg s = eg0 at HX C0 ED g1 g2
  generalize hvl : mlN s b = vl at HX C0 L k3 k4 ⊢
  generalize hvm : mrN s b = vm at HX C0 M k5 k6 ⊢
  generalize hvd : wdN s b = vd at HX D k7 k8
  have HM : Hid (min wi (max nr (b - eg0 - vl - vm)) = min wi (max (b - eg0 - vl - vm) nr)) := by show _ = _; omega
  rw [HM.out] at HX
  have xb : -10000000 ≤ max (b - eg0 - vl - vm) nr ∧ max (b - eg0 - vl - vm) nr ≤ 10000000 := by omega
  obtain ⟨xb1, xb2⟩ := xb
  generalize hxm : max (b - eg0 - vl - vm) nr = xx at HX C0 xb1 xb2
  clear ha hs hb0 i1 i2 i3 z1 z2 z3 h1 h2 hxx hcw heg hvl hvm hvd HM hxm
  have hS : Sw s w ((w.alloc (.cells (#[.int .i64 s.sh, .int .i64 s.fl, .int .i64 s.cl, .bool s.w.a, .bool s.w.p, .int .i64 s.w.n, .bool s.h.a, .bool s.h.p, .int .i64 s.h.n, .int .i64 s.mn, .int .i64 s.mx, .int .i64 s.mt, .bool s.mr.a, .bool s.mr.p, .int .i64 s.mr.n, .int .i64 s.mb, .bool s.ml.a, .bool s.ml.p, .int .i64 s.ml.n, .int .i64 s.bo, .int .i64 s.pa, .int .i64 s.wh, .int .i64 s.al, .int .i64 s.lh, .int .i64 s.ri, .int .i64 s.dn]) 32)).alloc (.cells (#[.int .i64 0, .int .i64 0, .int .i64 0]) 27)) := ⟨((Below.refl _ _).alloc (Nat.le_refl _) _).alloc (by simp) _, heap_in (heap_at _ _ _ rfl), heap_at _ _ _ (by simp)⟩
  go_enter Tryd.func36, Tryd.ntmps36
  go_wp2
  refine Code.wp_mono (Q := fun e a' w' => e = .normal ∧ ∃ p, w.heap.size + 1 < p ∧ a' = { tmps := #[.agg #[.int .i64 s.sh, .int .i64 s.fl, .int .i64 s.cl, .bool s.w.a, .bool s.w.p, .int .i64 s.w.n, .bool s.h.a, .bool s.h.p, .int .i64 s.h.n, .int .i64 s.mn, .int .i64 s.mx, .int .i64 s.mt, .bool s.mr.a, .bool s.mr.p, .int .i64 s.mr.n, .int .i64 s.mb, .bool s.ml.a, .bool s.ml.p, .int .i64 s.ml.n, .int .i64 s.bo, .int .i64 s.pa, .int .i64 s.wh, .int .i64 s.al, .int .i64 s.lh, .int .i64 s.ri, .int .i64 s.dn], .int .i64 b, .int .i64 nr, .int .i64 wi, .pointer (some ⟨w.heap.size, 0, none⟩), undef, undef, undef, .pointer (some ⟨w.heap.size + 1, 0, none⟩), .pointer (some ⟨p, 0, none⟩), .pointer (some ⟨w.heap.size, 16, none⟩), .agg #[.bool s.ml.a, .bool s.ml.p, .int .i64 s.ml.n], .int .i64 b, .int .i64 vl, .pointer (some ⟨w.heap.size, 12, none⟩), .agg #[.bool s.mr.a, .bool s.mr.p, .int .i64 s.mr.n], .int .i64 b, .int .i64 vm, .pointer (some ⟨w.heap.size, 3, none⟩), .agg #[.bool s.w.a, .bool s.w.p, .int .i64 s.w.n], .int .i64 b, .int .i64 vd, .agg #[.int .i64 vl, .int .i64 vd, .int .i64 vm], undef, undef, undef, undef, undef, undef, undef, undef, undef, undef, undef, undef, undef, undef, undef, undef, undef, undef, undef, undef, undef, undef, undef, undef, undef, undef, undef, undef, undef, undef, undef], defers := [] } ∧ Sw s w w' ∧ w'.heap[p]? = some (.cells (#[.int .i64 vl, .int .i64 vd, .int .i64 vm]) 27 (0, 0))) ?_ ?_
  rotate_left
  · refine wp_region_held_drew (S := Sw s w) (by kernel_rfl) ⟨⟨hS.1.os, hS.1.tape, hS.1.output, hS.1.size, hS.1.block⟩, hS.2.1, hS.2.2⟩ (fun hHeld => ?_)
    refine wpAnyH_take (i := 0) (oi := { dst := some 10, op := Op.fieldAddr 32 (Operand.tmp 4) 10, type := 0, pos := "l6_width.go:67", after := #[], guard := none }) (v := .pointer (some ⟨w.heap.size, 16, none⟩)) rfl (by kernel_rfl) (by kernel_rfl) (by kernel_rfl) (fun _ _ _ h => by cases h.1) (Or.inl ⟨by rfl, by intro wz hSw; go_simp⟩) hHeld ?_
    simp only [Act.put, List.setIfInBounds_toArray, List.set_cons_zero, List.set_cons_succ]
    refine wpAnyH_take (i := 1) (oi := { dst := some 11, op := Op.load 30 (Operand.tmp 10), type := 30, pos := "l6_width.go:67", after := #[⟨0, Ground.data⟩], guard := none }) (v := .agg #[.bool s.ml.a, .bool s.ml.p, .int .i64 s.ml.n]) rfl (by kernel_rfl) (by kernel_rfl) (by kernel_rfl) (fun _ _ _ h => by cases h.1) (yieldsIf_load_mid (by rfl) 30 _ rfl (w.heap.size) 16 rfl ([.bool s.ml.a, .bool s.ml.p, .int .i64 s.ml.n]) _ (fun wz hw => range_part hw.2.1 16 (by rfl)) Tryd.underlying30 rfl (by kernel_rfl)) hHeld ?_
    simp only [Act.put, List.setIfInBounds_toArray, List.set_cons_zero, List.set_cons_succ]
    refine wpAnyH_take (i := 2) (oi := { dst := some 12, op := Op.move (Operand.tmp 1), type := 3, pos := "l6_width.go:67", after := #[], guard := none }) (v := .int .i64 b) rfl (by kernel_rfl) (by kernel_rfl) (by kernel_rfl) (fun _ _ _ h => by cases h.1) (Or.inl ⟨by rfl, by intro wz hSw; go_simp⟩) hHeld ?_
    simp only [Act.put, List.setIfInBounds_toArray, List.set_cons_zero, List.set_cons_succ]
    refine wpAnyH_take (i := 4) (oi := { dst := some 14, op := Op.fieldAddr 32 (Operand.tmp 4) 8, type := 0, pos := "l6_width.go:67", after := #[], guard := none }) (v := .pointer (some ⟨w.heap.size, 12, none⟩)) rfl (by kernel_rfl) (by kernel_rfl) (by kernel_rfl) (fun _ _ _ h => by cases h.1) (Or.inl ⟨by rfl, by intro wz hSw; go_simp⟩) hHeld ?_
    simp only [Act.put, List.setIfInBounds_toArray, List.set_cons_zero, List.set_cons_succ]
    refine wpAnyH_take (i := 5) (oi := { dst := some 15, op := Op.load 30 (Operand.tmp 14), type := 30, pos := "l6_width.go:67", after := #[⟨4, Ground.data⟩], guard := none }) (v := .agg #[.bool s.mr.a, .bool s.mr.p, .int .i64 s.mr.n]) rfl (by kernel_rfl) (by kernel_rfl) (by kernel_rfl) (fun _ _ _ h => by cases h.1) (yieldsIf_load_mid (by rfl) 30 _ rfl (w.heap.size) 12 rfl ([.bool s.mr.a, .bool s.mr.p, .int .i64 s.mr.n]) _ (fun wz hw => range_part hw.2.1 12 (by rfl)) Tryd.underlying30 rfl (by kernel_rfl)) hHeld ?_
    simp only [Act.put, List.setIfInBounds_toArray, List.set_cons_zero, List.set_cons_succ]
    refine wpAnyH_take (i := 6) (oi := { dst := some 16, op := Op.move (Operand.tmp 1), type := 3, pos := "l6_width.go:67", after := #[], guard := none }) (v := .int .i64 b) rfl (by kernel_rfl) (by kernel_rfl) (by kernel_rfl) (fun _ _ _ h => by cases h.1) (Or.inl ⟨by rfl, by intro wz hSw; go_simp⟩) hHeld ?_
    simp only [Act.put, List.setIfInBounds_toArray, List.set_cons_zero, List.set_cons_succ]
    refine wpAnyH_take (i := 8) (oi := { dst := some 18, op := Op.fieldAddr 32 (Operand.tmp 4) 3, type := 0, pos := "l6_width.go:67", after := #[], guard := none }) (v := .pointer (some ⟨w.heap.size, 3, none⟩)) rfl (by kernel_rfl) (by kernel_rfl) (by kernel_rfl) (fun _ _ _ h => by cases h.1) (Or.inl ⟨by rfl, by intro wz hSw; go_simp⟩) hHeld ?_
    simp only [Act.put, List.setIfInBounds_toArray, List.set_cons_zero, List.set_cons_succ]
    refine wpAnyH_take (i := 9) (oi := { dst := some 19, op := Op.load 30 (Operand.tmp 18), type := 30, pos := "l6_width.go:67", after := #[⟨8, Ground.data⟩], guard := none }) (v := .agg #[.bool s.w.a, .bool s.w.p, .int .i64 s.w.n]) rfl (by kernel_rfl) (by kernel_rfl) (by kernel_rfl) (fun _ _ _ h => by cases h.1) (yieldsIf_load_mid (by rfl) 30 _ rfl (w.heap.size) 3 rfl ([.bool s.w.a, .bool s.w.p, .int .i64 s.w.n]) _ (fun wz hw => range_part hw.2.1 3 (by rfl)) Tryd.underlying30 rfl (by kernel_rfl)) hHeld ?_
    simp only [Act.put, List.setIfInBounds_toArray, List.set_cons_zero, List.set_cons_succ]
    refine wpAnyH_take (i := 10) (oi := { dst := some 20, op := Op.move (Operand.tmp 1), type := 3, pos := "l6_width.go:67", after := #[], guard := none }) (v := .int .i64 b) rfl (by kernel_rfl) (by kernel_rfl) (by kernel_rfl) (fun _ _ _ h => by cases h.1) (Or.inl ⟨by rfl, by intro wz hSw; go_simp⟩) hHeld ?_
    simp only [Act.put, List.setIfInBounds_toArray, List.set_cons_zero, List.set_cons_succ]
    refine wpAnyH_ready (rs := [3, 13]) (by kernel_rfl) (by simp) ?_
    refine AllReadyH.cons (o := { dst := some 13, op := Op.call { callee := Callee.value (Operand.func 30), args := #[Operand.tmp 11, Operand.tmp 12], argTypes := #[30, 3] }, type := 3, pos := "l6_width.go:67", after := #[⟨1, Ground.data⟩, ⟨2, Ground.data⟩], guard := none }) rfl (fun K hK => ?_) (AllReadyH.cons (o := { dst := some 9, op := Op.alloc 27, type := 0, pos := "l6_width.go:67", after := #[], guard := none }) rfl (fun K hK => ?_) AllReadyH.nil)
    · go_simp
      refine (L _).mono ?_
      rintro e v1 ⟨rfl, hb1⟩
      go_wp2_with fail
      refine hK.out _ _ (Sw_call hHeld hb1) (fun hH1 => ?_)
      clear hK K
      try simp only [Act.put, List.setIfInBounds_toArray, List.set_cons_zero, List.set_cons_succ]
      refine wpAnyH_ready (rs := [7, 13]) (by kernel_rfl) (by simp) ?_
      refine AllReadyH.cons (o := { dst := some 17, op := Op.call { callee := Callee.value (Operand.func 30), args := #[Operand.tmp 15, Operand.tmp 16], argTypes := #[30, 3] }, type := 3, pos := "l6_width.go:67", after := #[⟨5, Ground.data⟩, ⟨6, Ground.data⟩, ⟨3, Ground.chain⟩], guard := none }) rfl (fun K hK => ?_) (AllReadyH.cons (o := { dst := some 9, op := Op.alloc 27, type := 0, pos := "l6_width.go:67", after := #[], guard := none }) rfl (fun K hK => ?_) AllReadyH.nil)
      · go_simp
        refine (M _).mono ?_
        rintro e v2 ⟨rfl, hb2⟩
        go_wp2_with fail
        refine hK.out _ _ (Sw_call hH1 hb2) (fun hH2 => ?_)
        clear hK K
        try simp only [Act.put, List.setIfInBounds_toArray, List.set_cons_zero, List.set_cons_succ]
        refine wpAnyH_ready (rs := [11, 13]) (by kernel_rfl) (by simp) ?_
        refine AllReadyH.cons (o := { dst := some 21, op := Op.call { callee := Callee.value (Operand.func 30), args := #[Operand.tmp 19, Operand.tmp 20], argTypes := #[30, 3] }, type := 3, pos := "l6_width.go:67", after := #[⟨9, Ground.data⟩, ⟨10, Ground.data⟩, ⟨7, Ground.chain⟩], guard := none }) rfl (fun K hK => ?_) (AllReadyH.cons (o := { dst := some 9, op := Op.alloc 27, type := 0, pos := "l6_width.go:67", after := #[], guard := none }) rfl (fun K hK => ?_) AllReadyH.nil)
        · go_simp
          refine (D _).mono ?_
          rintro e v3 ⟨rfl, hb3⟩
          go_wp2_with fail
          refine hK.out _ _ (Sw_call hH2 hb3) (fun hH3 => ?_)
          clear hK K
          try simp only [Act.put, List.setIfInBounds_toArray, List.set_cons_zero, List.set_cons_succ]
          refine wpAnyH_take (i := 12) (oi := { dst := some 22, op := Op.build 27 #[(0, Operand.tmp 13), (2, Operand.tmp 17), (1, Operand.tmp 21)], type := 27, pos := "l6_width.go:67", after := #[⟨3, Ground.data⟩, ⟨7, Ground.data⟩, ⟨11, Ground.data⟩], guard := none }) (v := .agg #[.int .i64 vl, .int .i64 vd, .int .i64 vm]) rfl (by kernel_rfl) (by kernel_rfl) (by kernel_rfl) (fun _ _ _ h => by cases h.1) (Or.inl ⟨by rfl, by intro wz hSw; go_simp⟩) hH3 ?_
          simp only [Act.put, List.setIfInBounds_toArray, List.set_cons_zero, List.set_cons_succ]
          refine wpAnyH_ready (rs := [13]) (by kernel_rfl) (by simp) ?_
          refine AllReadyH.cons (o := { dst := some 9, op := Op.alloc 27, type := 0, pos := "l6_width.go:67", after := #[], guard := none }) rfl (fun K hK => ?_) AllReadyH.nil
          go_simp
          refine hK.out _ _ (Sw_alloc hH3 _) (fun hH4 => ?_)
          clear hK K
          try simp only [Act.put, List.setIfInBounds_toArray, List.set_cons_zero, List.set_cons_succ]
          have l5 := heap_at (v3) (.cells (#[.int .i64 0, .int .i64 0, .int .i64 0]) 27) _ rfl
          have hl5 := lies_lt hH3.2.2
          refine wpAnyH_ready (rs := [14]) (by kernel_rfl) (by simp) ?_
          refine AllReadyH.cons (o := { dst := none, op := Op.store 27 (Operand.tmp 9) (Operand.tmp 22), type := 0, pos := "l6_width.go:67", after := #[⟨13, Ground.data⟩, ⟨12, Ground.data⟩, ⟨11, Ground.chain⟩, ⟨0, Ground.phase⟩, ⟨1, Ground.phase⟩, ⟨2, Ground.phase⟩, ⟨3, Ground.phase⟩, ⟨4, Ground.phase⟩, ⟨5, Ground.phase⟩, ⟨6, Ground.phase⟩, ⟨7, Ground.phase⟩, ⟨8, Ground.phase⟩, ⟨9, Ground.phase⟩, ⟨10, Ground.phase⟩, ⟨11, Ground.phase⟩, ⟨12, Ground.phase⟩, ⟨13, Ground.phase⟩], guard := none }) rfl (fun K hK => ?_) AllReadyH.nil
          rw [if_pos (by rfl)]
          refine wp_putA 27 _ _ rfl rfl _ 0 3 [.int .i64 vl, .int .i64 vd, .int .i64 vm] _ _ rfl rfl l5 rfl (by kernel_rfl) (by kernel_rfl) (by kernel_rfl) ?_
          intro v5 p9 l9
          have l5 := l9.trans (congrArg (fun c => some (Obj.cells c 27 (0, 0))) (show _ = (#[.int .i64 vl, .int .i64 vd, .int .i64 vm] : Array Value) by kernel_rfl))
          refine hK.out _ _ (Sw_put hH4 p9 hl5) (fun hH5 => ?_)
          clear hK K l9
          try simp only [Act.put, List.setIfInBounds_toArray, List.set_cons_zero, List.set_cons_succ]
          refine wpAnyH_done (by kernel_rfl) ?_ _
          exact ⟨rfl, _, hl5, rfl, hH5, l5⟩
        · go_simp
          refine hK.out _ _ (Sw_alloc hH2 _) (fun hH6 => ?_)
          clear hK K
          try simp only [Act.put, List.setIfInBounds_toArray, List.set_cons_zero, List.set_cons_succ]
          have l5 := heap_at (v2) (.cells (#[.int .i64 0, .int .i64 0, .int .i64 0]) 27) _ rfl
          have hl5 := lies_lt hH2.2.2
          refine wpAnyH_ready (rs := [11]) (by kernel_rfl) (by simp) ?_
          refine AllReadyH.cons (o := { dst := some 21, op := Op.call { callee := Callee.value (Operand.func 30), args := #[Operand.tmp 19, Operand.tmp 20], argTypes := #[30, 3] }, type := 3, pos := "l6_width.go:67", after := #[⟨9, Ground.data⟩, ⟨10, Ground.data⟩, ⟨7, Ground.chain⟩], guard := none }) rfl (fun K hK => ?_) AllReadyH.nil
          go_simp
          refine (D _).mono ?_
          rintro e v7 ⟨rfl, hb7⟩
          have l5 := below_lies hb7 l5 (lies_lt l5)
          go_wp2_with fail
          refine hK.out _ _ (Sw_call hH6 hb7) (fun hH7 => ?_)
          clear hK K
          try simp only [Act.put, List.setIfInBounds_toArray, List.set_cons_zero, List.set_cons_succ]
          refine wpAnyH_take (i := 12) (oi := { dst := some 22, op := Op.build 27 #[(0, Operand.tmp 13), (2, Operand.tmp 17), (1, Operand.tmp 21)], type := 27, pos := "l6_width.go:67", after := #[⟨3, Ground.data⟩, ⟨7, Ground.data⟩, ⟨11, Ground.data⟩], guard := none }) (v := .agg #[.int .i64 vl, .int .i64 vd, .int .i64 vm]) rfl (by kernel_rfl) (by kernel_rfl) (by kernel_rfl) (fun _ _ _ h => by cases h.1) (Or.inl ⟨by rfl, by intro wz hSw; go_simp⟩) hH7 ?_
          simp only [Act.put, List.setIfInBounds_toArray, List.set_cons_zero, List.set_cons_succ]
          refine wpAnyH_ready (rs := [14]) (by kernel_rfl) (by simp) ?_
          refine AllReadyH.cons (o := { dst := none, op := Op.store 27 (Operand.tmp 9) (Operand.tmp 22), type := 0, pos := "l6_width.go:67", after := #[⟨13, Ground.data⟩, ⟨12, Ground.data⟩, ⟨11, Ground.chain⟩, ⟨0, Ground.phase⟩, ⟨1, Ground.phase⟩, ⟨2, Ground.phase⟩, ⟨3, Ground.phase⟩, ⟨4, Ground.phase⟩, ⟨5, Ground.phase⟩, ⟨6, Ground.phase⟩, ⟨7, Ground.phase⟩, ⟨8, Ground.phase⟩, ⟨9, Ground.phase⟩, ⟨10, Ground.phase⟩, ⟨11, Ground.phase⟩, ⟨12, Ground.phase⟩, ⟨13, Ground.phase⟩], guard := none }) rfl (fun K hK => ?_) AllReadyH.nil
          rw [if_pos (by rfl)]
          refine wp_putA 27 _ _ rfl rfl _ 0 3 [.int .i64 vl, .int .i64 vd, .int .i64 vm] _ _ rfl rfl l5 rfl (by kernel_rfl) (by kernel_rfl) (by kernel_rfl) ?_
          intro v8 p9 l9
          have l5 := l9.trans (congrArg (fun c => some (Obj.cells c 27 (0, 0))) (show _ = (#[.int .i64 vl, .int .i64 vd, .int .i64 vm] : Array Value) by kernel_rfl))
          refine hK.out _ _ (Sw_put hH7 p9 hl5) (fun hH8 => ?_)
          clear hK K l9
          try simp only [Act.put, List.setIfInBounds_toArray, List.set_cons_zero, List.set_cons_succ]
          refine wpAnyH_done (by kernel_rfl) ?_ _
          exact ⟨rfl, _, hl5, rfl, hH8, l5⟩
      · go_simp
        refine hK.out _ _ (Sw_alloc hH1 _) (fun hH9 => ?_)
        clear hK K
        try simp only [Act.put, List.setIfInBounds_toArray, List.set_cons_zero, List.set_cons_succ]
        have l5 := heap_at (v1) (.cells (#[.int .i64 0, .int .i64 0, .int .i64 0]) 27) _ rfl
        have hl5 := lies_lt hH1.2.2
        refine wpAnyH_ready (rs := [7]) (by kernel_rfl) (by simp) ?_
        refine AllReadyH.cons (o := { dst := some 17, op := Op.call { callee := Callee.value (Operand.func 30), args := #[Operand.tmp 15, Operand.tmp 16], argTypes := #[30, 3] }, type := 3, pos := "l6_width.go:67", after := #[⟨5, Ground.data⟩, ⟨6, Ground.data⟩, ⟨3, Ground.chain⟩], guard := none }) rfl (fun K hK => ?_) AllReadyH.nil
        go_simp
        refine (M _).mono ?_
        rintro e v10 ⟨rfl, hb10⟩
        have l5 := below_lies hb10 l5 (lies_lt l5)
        go_wp2_with fail
        refine hK.out _ _ (Sw_call hH9 hb10) (fun hH10 => ?_)
        clear hK K
        try simp only [Act.put, List.setIfInBounds_toArray, List.set_cons_zero, List.set_cons_succ]
        refine wpAnyH_ready (rs := [11]) (by kernel_rfl) (by simp) ?_
        refine AllReadyH.cons (o := { dst := some 21, op := Op.call { callee := Callee.value (Operand.func 30), args := #[Operand.tmp 19, Operand.tmp 20], argTypes := #[30, 3] }, type := 3, pos := "l6_width.go:67", after := #[⟨9, Ground.data⟩, ⟨10, Ground.data⟩, ⟨7, Ground.chain⟩], guard := none }) rfl (fun K hK => ?_) AllReadyH.nil
        go_simp
        refine (D _).mono ?_
        rintro e v11 ⟨rfl, hb11⟩
        have l5 := below_lies hb11 l5 (lies_lt l5)
        go_wp2_with fail
        refine hK.out _ _ (Sw_call hH10 hb11) (fun hH11 => ?_)
        clear hK K
        try simp only [Act.put, List.setIfInBounds_toArray, List.set_cons_zero, List.set_cons_succ]
        refine wpAnyH_take (i := 12) (oi := { dst := some 22, op := Op.build 27 #[(0, Operand.tmp 13), (2, Operand.tmp 17), (1, Operand.tmp 21)], type := 27, pos := "l6_width.go:67", after := #[⟨3, Ground.data⟩, ⟨7, Ground.data⟩, ⟨11, Ground.data⟩], guard := none }) (v := .agg #[.int .i64 vl, .int .i64 vd, .int .i64 vm]) rfl (by kernel_rfl) (by kernel_rfl) (by kernel_rfl) (fun _ _ _ h => by cases h.1) (Or.inl ⟨by rfl, by intro wz hSw; go_simp⟩) hH11 ?_
        simp only [Act.put, List.setIfInBounds_toArray, List.set_cons_zero, List.set_cons_succ]
        refine wpAnyH_ready (rs := [14]) (by kernel_rfl) (by simp) ?_
        refine AllReadyH.cons (o := { dst := none, op := Op.store 27 (Operand.tmp 9) (Operand.tmp 22), type := 0, pos := "l6_width.go:67", after := #[⟨13, Ground.data⟩, ⟨12, Ground.data⟩, ⟨11, Ground.chain⟩, ⟨0, Ground.phase⟩, ⟨1, Ground.phase⟩, ⟨2, Ground.phase⟩, ⟨3, Ground.phase⟩, ⟨4, Ground.phase⟩, ⟨5, Ground.phase⟩, ⟨6, Ground.phase⟩, ⟨7, Ground.phase⟩, ⟨8, Ground.phase⟩, ⟨9, Ground.phase⟩, ⟨10, Ground.phase⟩, ⟨11, Ground.phase⟩, ⟨12, Ground.phase⟩, ⟨13, Ground.phase⟩], guard := none }) rfl (fun K hK => ?_) AllReadyH.nil
        rw [if_pos (by rfl)]
        refine wp_putA 27 _ _ rfl rfl _ 0 3 [.int .i64 vl, .int .i64 vd, .int .i64 vm] _ _ rfl rfl l5 rfl (by kernel_rfl) (by kernel_rfl) (by kernel_rfl) ?_
        intro v12 p9 l9
        have l5 := l9.trans (congrArg (fun c => some (Obj.cells c 27 (0, 0))) (show _ = (#[.int .i64 vl, .int .i64 vd, .int .i64 vm] : Array Value) by kernel_rfl))
        refine hK.out _ _ (Sw_put hH11 p9 hl5) (fun hH12 => ?_)
        clear hK K l9
        try simp only [Act.put, List.setIfInBounds_toArray, List.set_cons_zero, List.set_cons_succ]
        refine wpAnyH_done (by kernel_rfl) ?_ _
        exact ⟨rfl, _, hl5, rfl, hH12, l5⟩
    · go_simp
      refine hK.out _ _ (Sw_alloc hHeld _) (fun hH13 => ?_)
      clear hK K
      try simp only [Act.put, List.setIfInBounds_toArray, List.set_cons_zero, List.set_cons_succ]
      have l5 := heap_at (((w.alloc (.cells (#[.int .i64 s.sh, .int .i64 s.fl, .int .i64 s.cl, .bool s.w.a, .bool s.w.p, .int .i64 s.w.n, .bool s.h.a, .bool s.h.p, .int .i64 s.h.n, .int .i64 s.mn, .int .i64 s.mx, .int .i64 s.mt, .bool s.mr.a, .bool s.mr.p, .int .i64 s.mr.n, .int .i64 s.mb, .bool s.ml.a, .bool s.ml.p, .int .i64 s.ml.n, .int .i64 s.bo, .int .i64 s.pa, .int .i64 s.wh, .int .i64 s.al, .int .i64 s.lh, .int .i64 s.ri, .int .i64 s.dn]) 32)).alloc (.cells (#[.int .i64 0, .int .i64 0, .int .i64 0]) 27)).drew) (.cells (#[.int .i64 0, .int .i64 0, .int .i64 0]) 27) (w.heap.size + 1 + 1) (by simp)
      have hl5 : w.heap.size + 1 < w.heap.size + 1 + 1 := Nat.lt_succ_self _
      refine wpAnyH_ready (rs := [3]) (by kernel_rfl) (by simp) ?_
      refine AllReadyH.cons (o := { dst := some 13, op := Op.call { callee := Callee.value (Operand.func 30), args := #[Operand.tmp 11, Operand.tmp 12], argTypes := #[30, 3] }, type := 3, pos := "l6_width.go:67", after := #[⟨1, Ground.data⟩, ⟨2, Ground.data⟩], guard := none }) rfl (fun K hK => ?_) AllReadyH.nil
      go_simp
      refine (L _).mono ?_
      rintro e v14 ⟨rfl, hb14⟩
      have l5 := below_lies hb14 l5 (lies_lt l5)
      go_wp2_with fail
      refine hK.out _ _ (Sw_call hH13 hb14) (fun hH14 => ?_)
      clear hK K
      try simp only [Act.put, List.setIfInBounds_toArray, List.set_cons_zero, List.set_cons_succ]
      refine wpAnyH_ready (rs := [7]) (by kernel_rfl) (by simp) ?_
      refine AllReadyH.cons (o := { dst := some 17, op := Op.call { callee := Callee.value (Operand.func 30), args := #[Operand.tmp 15, Operand.tmp 16], argTypes := #[30, 3] }, type := 3, pos := "l6_width.go:67", after := #[⟨5, Ground.data⟩, ⟨6, Ground.data⟩, ⟨3, Ground.chain⟩], guard := none }) rfl (fun K hK => ?_) AllReadyH.nil
      go_simp
      refine (M _).mono ?_
      rintro e v15 ⟨rfl, hb15⟩
      have l5 := below_lies hb15 l5 (lies_lt l5)
      go_wp2_with fail
      refine hK.out _ _ (Sw_call hH14 hb15) (fun hH15 => ?_)
      clear hK K
      try simp only [Act.put, List.setIfInBounds_toArray, List.set_cons_zero, List.set_cons_succ]
      refine wpAnyH_ready (rs := [11]) (by kernel_rfl) (by simp) ?_
      refine AllReadyH.cons (o := { dst := some 21, op := Op.call { callee := Callee.value (Operand.func 30), args := #[Operand.tmp 19, Operand.tmp 20], argTypes := #[30, 3] }, type := 3, pos := "l6_width.go:67", after := #[⟨9, Ground.data⟩, ⟨10, Ground.data⟩, ⟨7, Ground.chain⟩], guard := none }) rfl (fun K hK => ?_) AllReadyH.nil
      go_simp
      refine (D _).mono ?_
      rintro e v16 ⟨rfl, hb16⟩
      have l5 := below_lies hb16 l5 (lies_lt l5)
      go_wp2_with fail
      refine hK.out _ _ (Sw_call hH15 hb16) (fun hH16 => ?_)
      clear hK K
      try simp only [Act.put, List.setIfInBounds_toArray, List.set_cons_zero, List.set_cons_succ]
      refine wpAnyH_take (i := 12) (oi := { dst := some 22, op := Op.build 27 #[(0, Operand.tmp 13), (2, Operand.tmp 17), (1, Operand.tmp 21)], type := 27, pos := "l6_width.go:67", after := #[⟨3, Ground.data⟩, ⟨7, Ground.data⟩, ⟨11, Ground.data⟩], guard := none }) (v := .agg #[.int .i64 vl, .int .i64 vd, .int .i64 vm]) rfl (by kernel_rfl) (by kernel_rfl) (by kernel_rfl) (fun _ _ _ h => by cases h.1) (Or.inl ⟨by rfl, by intro wz hSw; go_simp⟩) hH16 ?_
      simp only [Act.put, List.setIfInBounds_toArray, List.set_cons_zero, List.set_cons_succ]
      refine wpAnyH_ready (rs := [14]) (by kernel_rfl) (by simp) ?_
      refine AllReadyH.cons (o := { dst := none, op := Op.store 27 (Operand.tmp 9) (Operand.tmp 22), type := 0, pos := "l6_width.go:67", after := #[⟨13, Ground.data⟩, ⟨12, Ground.data⟩, ⟨11, Ground.chain⟩, ⟨0, Ground.phase⟩, ⟨1, Ground.phase⟩, ⟨2, Ground.phase⟩, ⟨3, Ground.phase⟩, ⟨4, Ground.phase⟩, ⟨5, Ground.phase⟩, ⟨6, Ground.phase⟩, ⟨7, Ground.phase⟩, ⟨8, Ground.phase⟩, ⟨9, Ground.phase⟩, ⟨10, Ground.phase⟩, ⟨11, Ground.phase⟩, ⟨12, Ground.phase⟩, ⟨13, Ground.phase⟩], guard := none }) rfl (fun K hK => ?_) AllReadyH.nil
      rw [if_pos (by rfl)]
      refine wp_putA 27 _ _ rfl rfl _ 0 3 [.int .i64 vl, .int .i64 vd, .int .i64 vm] _ _ rfl rfl l5 rfl (by kernel_rfl) (by kernel_rfl) (by kernel_rfl) ?_
      intro v17 p9 l9
      have l5 := l9.trans (congrArg (fun c => some (Obj.cells c 27 (0, 0))) (show _ = (#[.int .i64 vl, .int .i64 vd, .int .i64 vm] : Array Value) by kernel_rfl))
      refine hK.out _ _ (Sw_put hH16 p9 hl5) (fun hH17 => ?_)
      clear hK K l9
      try simp only [Act.put, List.setIfInBounds_toArray, List.set_cons_zero, List.set_cons_succ]
      refine wpAnyH_done (by kernel_rfl) ?_ _
      exact ⟨rfl, _, hl5, rfl, hH17, l5⟩
  rintro e a' w1 ⟨rfl, p, hp, rfl, ⟨bel, l0, l1⟩, l5⟩
  clear hS L M D
  rcases Bool.eq_false_or_eq_true s.w.a with hw | hw
  · have c3 : w1.cell? ⟨w.heap.size, 3, none⟩ = some (.bool true) := (lies_cell l0 3).trans (by show some (Value.bool s.w.a) = _; rw [hw])
    have HX2 : Hid (x0 = min wi xx) := by show _ = _; rw [HX.out, if_pos hw]
    clear HX hw
    go_wp2
    refine wp_region_held_drew (S := Sv s w p vl vm) (by kernel_rfl) ⟨⟨⟨bel.os, bel.tape, bel.output, bel.size, bel.block⟩, l0, l1⟩, ⟨vd, l5⟩⟩ (fun hHeld => ?_)
    refine wpAnyH_take (i := 0) (oi := { dst := some 26, op := Op.move (Operand.tmp 1), type := 3, pos := "l6_width.go:69", after := #[], guard := none }) (v := .int .i64 b) rfl (by kernel_rfl) (by kernel_rfl) (by kernel_rfl) (fun _ _ _ h => h) (Or.inl ⟨by rfl, by intro wz hSw; go_simp⟩) hHeld ?_
    simp only [Act.put, List.setIfInBounds_toArray, List.set_cons_zero, List.set_cons_succ]
    refine wpAnyH_take (i := 1) (oi := { dst := some 27, op := Op.load 32 (Operand.tmp 4), type := 32, pos := "l6_width.go:69", after := #[], guard := none }) (v := .agg ((stCells s).toList).toArray) rfl (by kernel_rfl) (by kernel_rfl) (by kernel_rfl) (fun _ _ _ h => h) (yieldsIf_load_mid (by rfl) 32 _ rfl (w.heap.size) 0 rfl ((stCells s).toList) _ (fun wz hw => range_lies hw.1.2.1) Tryd.underlying32 rfl (by kernel_rfl)) hHeld ?_
    simp only [Act.put, List.setIfInBounds_toArray, List.set_cons_zero, List.set_cons_succ]
    refine wpAnyH_take (i := 4) (oi := { dst := some 30, op := Op.fieldAddr 27 (Operand.tmp 9) 0, type := 0, pos := "l6_width.go:69", after := #[], guard := none }) (v := .pointer (some ⟨p, 0, none⟩)) rfl (by kernel_rfl) (by kernel_rfl) (by kernel_rfl) (fun _ _ _ h => h) (Or.inl ⟨by rfl, by intro wz hSw; go_simp⟩) hHeld ?_
    simp only [Act.put, List.setIfInBounds_toArray, List.set_cons_zero, List.set_cons_succ]
    refine wpAnyH_take (i := 5) (oi := { dst := some 31, op := Op.load 3 (Operand.tmp 30), type := 3, pos := "l6_width.go:69", after := #[⟨4, Ground.data⟩], guard := none }) (v := .int .i64 vl) rfl (by kernel_rfl) (by kernel_rfl) (by kernel_rfl) (fun _ _ _ h => h) (Or.inl ⟨by rfl, by intro wz hSw; have hq : wz.cell? ⟨p, 0, none⟩ = some (.int .i64 vl) := (lies_cell hSw.2.choose_spec 0).trans rfl; clear hSw; go_simp⟩) hHeld ?_
    simp only [Act.put, List.setIfInBounds_toArray, List.set_cons_zero, List.set_cons_succ]
    refine wpAnyH_take (i := 7) (oi := { dst := some 33, op := Op.fieldAddr 27 (Operand.tmp 9) 2, type := 0, pos := "l6_width.go:69", after := #[], guard := none }) (v := .pointer (some ⟨p, 2, none⟩)) rfl (by kernel_rfl) (by kernel_rfl) (by kernel_rfl) (fun _ _ _ h => h) (Or.inl ⟨by rfl, by intro wz hSw; go_simp⟩) hHeld ?_
    simp only [Act.put, List.setIfInBounds_toArray, List.set_cons_zero, List.set_cons_succ]
    refine wpAnyH_take (i := 8) (oi := { dst := some 34, op := Op.load 3 (Operand.tmp 33), type := 3, pos := "l6_width.go:69", after := #[⟨7, Ground.data⟩], guard := none }) (v := .int .i64 vm) rfl (by kernel_rfl) (by kernel_rfl) (by kernel_rfl) (fun _ _ _ h => h) (Or.inl ⟨by rfl, by intro wz hSw; have hq : wz.cell? ⟨p, 2, none⟩ = some (.int .i64 vm) := (lies_cell hSw.2.choose_spec 2).trans rfl; clear hSw; go_simp⟩) hHeld ?_
    simp only [Act.put, List.setIfInBounds_toArray, List.set_cons_zero, List.set_cons_succ]
    refine wpAnyH_take (i := 10) (oi := { dst := some 36, op := Op.move (Operand.tmp 2), type := 3, pos := "l6_width.go:69", after := #[], guard := none }) (v := .int .i64 nr) rfl (by kernel_rfl) (by kernel_rfl) (by kernel_rfl) (fun _ _ _ h => h) (Or.inl ⟨by rfl, by intro wz hSw; go_simp⟩) hHeld ?_
    simp only [Act.put, List.setIfInBounds_toArray, List.set_cons_zero, List.set_cons_succ]
    refine wpAnyH_ready (rs := [2]) (by kernel_rfl) (by simp) ?_
    refine AllReadyH.cons (o := { dst := some 28, op := Op.call { callee := Callee.value (Operand.func 39), args := #[Operand.tmp 27], argTypes := #[32] }, type := 3, pos := "l6_width.go:69", after := #[⟨1, Ground.data⟩], guard := none }) rfl (fun K hK => ?_) AllReadyH.nil
    go_simp
    refine (ED _).mono ?_
    rintro e v1 ⟨rfl, hb1⟩
    have l5 := below_lies hb1 l5 (lies_lt l5)
    go_wp2_with fail
    refine hK.out _ _ (Sv_call hHeld hb1) (fun hH1 => ?_)
    clear hK K
    try simp only [Act.put, List.setIfInBounds_toArray, List.set_cons_zero, List.set_cons_succ]
    refine wpAnyH_take (i := 3) (oi := { dst := some 29, op := Op.binOp BinOp.sub 3 (Operand.tmp 26) (Operand.tmp 28) 3, type := 3, pos := "l6_width.go:69", after := #[⟨0, Ground.data⟩, ⟨2, Ground.data⟩], guard := none }) (v := .int .i64 (b - eg0)) rfl (by kernel_rfl) (by kernel_rfl) (by kernel_rfl) (fun _ _ _ h => h) (Or.inl ⟨by rfl, by intro wz hSw; go_simp; exact wrap6 (by omega) (by omega)⟩) hH1 ?_
    simp only [Act.put, List.setIfInBounds_toArray, List.set_cons_zero, List.set_cons_succ]
    refine wpAnyH_take (i := 6) (oi := { dst := some 32, op := Op.binOp BinOp.sub 3 (Operand.tmp 29) (Operand.tmp 31) 3, type := 3, pos := "l6_width.go:69", after := #[⟨3, Ground.data⟩, ⟨5, Ground.data⟩], guard := none }) (v := .int .i64 ((b - eg0) - vl)) rfl (by kernel_rfl) (by kernel_rfl) (by kernel_rfl) (fun _ _ _ h => h) (Or.inl ⟨by rfl, by intro wz hSw; go_simp; exact wrap6 (by omega) (by omega)⟩) hH1 ?_
    simp only [Act.put, List.setIfInBounds_toArray, List.set_cons_zero, List.set_cons_succ]
    refine wpAnyH_take (i := 9) (oi := { dst := some 35, op := Op.binOp BinOp.sub 3 (Operand.tmp 32) (Operand.tmp 34) 3, type := 3, pos := "l6_width.go:69", after := #[⟨6, Ground.data⟩, ⟨8, Ground.data⟩], guard := none }) (v := .int .i64 (((b - eg0) - vl) - vm)) rfl (by kernel_rfl) (by kernel_rfl) (by kernel_rfl) (fun _ _ _ h => h) (Or.inl ⟨by rfl, by intro wz hSw; go_simp; exact wrap6 (by omega) (by omega)⟩) hH1 ?_
    simp only [Act.put, List.setIfInBounds_toArray, List.set_cons_zero, List.set_cons_succ]
    refine wpAnyH_ready (rs := [11]) (by kernel_rfl) (by simp) ?_
    refine AllReadyH.cons (o := { dst := some 37, op := Op.call { callee := Callee.value (Operand.func 68), args := #[Operand.tmp 35, Operand.tmp 36, Operand.const (Value.int IntKind.i64 (-1))], argTypes := #[3, 3, 3] }, type := 3, pos := "l6_width.go:69", after := #[⟨9, Ground.data⟩, ⟨10, Ground.data⟩, ⟨2, Ground.chain⟩], guard := none }) rfl (fun K hK => ?_) AllReadyH.nil
    go_simp
    refine (C0 _).mono ?_
    rintro e v2 ⟨rfl, hb2⟩
    have l5 := below_lies hb2 l5 (lies_lt l5)
    go_wp2_with fail
    refine hK.out _ _ (Sv_call hH1 hb2) (fun hH2 => ?_)
    clear hK K
    try simp only [Act.put, List.setIfInBounds_toArray, List.set_cons_zero, List.set_cons_succ]
    refine wpAnyH_take (i := 12) (oi := { dst := some 38, op := Op.fieldAddr 27 (Operand.tmp 9) 1, type := 0, pos := "l6_width.go:69", after := #[⟨0, Ground.phase⟩, ⟨1, Ground.phase⟩, ⟨2, Ground.phase⟩, ⟨3, Ground.phase⟩, ⟨4, Ground.phase⟩, ⟨5, Ground.phase⟩, ⟨6, Ground.phase⟩, ⟨7, Ground.phase⟩, ⟨8, Ground.phase⟩, ⟨9, Ground.phase⟩, ⟨10, Ground.phase⟩, ⟨11, Ground.phase⟩], guard := none }) (v := .pointer (some ⟨p, 1, none⟩)) rfl (by kernel_rfl) (by kernel_rfl) (by kernel_rfl) (fun _ _ _ h => h) (Or.inl ⟨by rfl, by intro wz hSw; go_simp⟩) hH2 ?_
    simp only [Act.put, List.setIfInBounds_toArray, List.set_cons_zero, List.set_cons_succ]
    refine wpAnyH_ready (rs := [13]) (by kernel_rfl) (by simp) ?_
    refine AllReadyH.cons (o := { dst := none, op := Op.store 3 (Operand.tmp 38) (Operand.tmp 37), type := 0, pos := "l6_width.go:69", after := #[⟨12, Ground.data⟩, ⟨11, Ground.data⟩, ⟨11, Ground.chain⟩, ⟨0, Ground.phase⟩, ⟨1, Ground.phase⟩, ⟨2, Ground.phase⟩, ⟨3, Ground.phase⟩, ⟨4, Ground.phase⟩, ⟨5, Ground.phase⟩, ⟨6, Ground.phase⟩, ⟨7, Ground.phase⟩, ⟨8, Ground.phase⟩, ⟨9, Ground.phase⟩, ⟨10, Ground.phase⟩, ⟨11, Ground.phase⟩], guard := none }) rfl (fun K hK => ?_) AllReadyH.nil
    rw [if_pos (by rfl)]
    refine wp_putA 3 _ _ rfl rfl _ 1 3 [.int .i64 xx] _ _ rfl rfl l5 rfl (by kernel_rfl) (by kernel_rfl) (by kernel_rfl) ?_
    intro v3 p9 l9
    have l5 := l9.trans (congrArg (fun c => some (Obj.cells c 27 (0, 0))) (show _ = (#[.int .i64 vl, .int .i64 xx, .int .i64 vm] : Array Value) by kernel_rfl))
    refine hK.out _ _ (Sv_put hH2 p9 hp l5) (fun hH3 => ?_)
    clear hK K l9
    try simp only [Act.put, List.setIfInBounds_toArray, List.set_cons_zero, List.set_cons_succ]
    refine wpAnyH_done (by kernel_rfl) ?_ _
    obtain ⟨⟨bel, l0, l1⟩, _⟩ := hH3
    have c9 : v3.cell? ⟨w.heap.size, 9, none⟩ = some (.int .i64 s.mn) := (lies_cell l0 9).trans rfl
    have c10 : v3.cell? ⟨w.heap.size, 10, none⟩ = some (.int .i64 s.mx) := (lies_cell l0 10).trans rfl
    have d1 : v3.cell? ⟨p, 1, none⟩ = some (.int .i64 xx) := (lies_cell l5 1).trans rfl
    clear c3 hHeld C0 ED
    by_cases hq : wi < xx
    · have C1 := fun w => clampS x0 s.mn s.mx w
      rw [HC.out, show x0 = wi by rw [HX2.out]; omega] at C1
      clear HC HX2
      go_wp2_with (first | ((with_reducible show wpList _ _ _ (⟨none, Op.store 3 (Operand.tmp 44) _, _, _, _, _⟩ :: _) _ _); refine wpList_putA rfl _ _ _ rfl rfl _ 1 3 [.int .i64 wi] _ _ rfl rfl l5 rfl (by kernel_rfl) (by kernel_rfl) (by kernel_rfl) ?_; intro w9 p9 l9 n9; replace l5 := l9.trans (congrArg (fun c => some (Obj.cells c 27 (0, 0))) (show _ = (#[.int .i64 vl, .int .i64 wi, .int .i64 vm] : Array Value) by kernel_rfl)); replace l0 := p9.lies l0 (by omega); replace l1 := p9.lies l1 (by omega); replace bel := p9.below bel (by omega); clear l9 n9 p9; have d1 : w9.cell? ⟨p, 1, none⟩ = some (.int .i64 wi) := (lies_cell l5 1).trans rfl; have c9 : w9.cell? ⟨w.heap.size, 9, none⟩ = some (.int .i64 s.mn) := (lies_cell l0 9).trans rfl; have c10 : w9.cell? ⟨w.heap.size, 10, none⟩ = some (.int .i64 s.mx) := (lies_cell l0 10).trans rfl) | (go_at_call 68; refine (C1 _).mono ?_; rintro e w' ⟨rfl, hw9⟩; have hw9 := hw9.symm; subst hw9) | ((with_reducible show wpList _ _ _ (⟨none, Op.store 3 (Operand.tmp 52) _, _, _, _, _⟩ :: _) _ _); refine wpList_putA rfl _ _ _ rfl rfl _ 1 3 [.int .i64 cw] _ _ rfl rfl l5 rfl (by kernel_rfl) (by kernel_rfl) (by kernel_rfl) ?_; intro w9 p9 l9 n9; replace l5 := l9.trans (congrArg (fun c => some (Obj.cells c 27 (0, 0))) (show _ = (#[.int .i64 vl, .int .i64 cw, .int .i64 vm] : Array Value) by kernel_rfl)); replace l0 := p9.lies l0 (by omega); replace l1 := p9.lies l1 (by omega); replace bel := p9.below bel (by omega); clear l9 n9 p9) | ((with_reducible show wpList _ _ _ (⟨some 53, Op.load 27 _, _, _, _, _⟩ :: _) _ _); refine wpList_load_row rfl 27 _ rfl (p) rfl _ (#[.int .i64 vl, .int .i64 cw, .int .i64 vm]) _ _ l5 Tryd.underlying27 rfl (by kernel_rfl) ?_) | ((with_reducible show wpList _ _ _ (⟨none, Op.store 27 (Operand.tmp 8) (Operand.tmp 53), _, _, _, _⟩ :: _) _ _); refine wpList_putA rfl _ _ _ rfl rfl _ 0 3 [.int .i64 vl, .int .i64 cw, .int .i64 vm] _ _ rfl rfl l1 rfl (by kernel_rfl) (by kernel_rfl) (by kernel_rfl) ?_; intro w9 p9 l9 n9; replace l1 := l9.trans (congrArg (fun c => some (Obj.cells c 27 (0, 0))) (show _ = (#[.int .i64 vl, .int .i64 cw, .int .i64 vm] : Array Value) by kernel_rfl)); replace bel := p9.below bel (by omega); clear l9 n9 p9))
      exact bodyPost_ret (v := .agg #[.int .i64 vl, .int .i64 cw, .int .i64 vm]) (results_cell_row Tryd.results36 _ _ _ _ (#[.int .i64 vl, .int .i64 cw, .int .i64 vm]) _ _ rfl l1 Tryd.underlying27 rfl (by kernel_rfl)) rfl ⟨rfl, bel⟩
    · have C1 := fun w => clampS x0 s.mn s.mx w
      rw [HC.out, show x0 = xx by rw [HX2.out]; omega] at C1
      clear HC HX2
      go_wp2_with (first | (go_at_call 68; refine (C1 _).mono ?_; rintro e w' ⟨rfl, hw9⟩; have hw9 := hw9.symm; subst hw9) | ((with_reducible show wpList _ _ _ (⟨none, Op.store 3 (Operand.tmp 52) _, _, _, _, _⟩ :: _) _ _); refine wpList_putA rfl _ _ _ rfl rfl _ 1 3 [.int .i64 cw] _ _ rfl rfl l5 rfl (by kernel_rfl) (by kernel_rfl) (by kernel_rfl) ?_; intro w9 p9 l9 n9; replace l5 := l9.trans (congrArg (fun c => some (Obj.cells c 27 (0, 0))) (show _ = (#[.int .i64 vl, .int .i64 cw, .int .i64 vm] : Array Value) by kernel_rfl)); replace l0 := p9.lies l0 (by omega); replace l1 := p9.lies l1 (by omega); replace bel := p9.below bel (by omega); clear l9 n9 p9) | ((with_reducible show wpList _ _ _ (⟨some 53, Op.load 27 _, _, _, _, _⟩ :: _) _ _); refine wpList_load_row rfl 27 _ rfl (p) rfl _ (#[.int .i64 vl, .int .i64 cw, .int .i64 vm]) _ _ l5 Tryd.underlying27 rfl (by kernel_rfl) ?_) | ((with_reducible show wpList _ _ _ (⟨none, Op.store 27 (Operand.tmp 8) (Operand.tmp 53), _, _, _, _⟩ :: _) _ _); refine wpList_putA rfl _ _ _ rfl rfl _ 0 3 [.int .i64 vl, .int .i64 cw, .int .i64 vm] _ _ rfl rfl l1 rfl (by kernel_rfl) (by kernel_rfl) (by kernel_rfl) ?_; intro w9 p9 l9 n9; replace l1 := l9.trans (congrArg (fun c => some (Obj.cells c 27 (0, 0))) (show _ = (#[.int .i64 vl, .int .i64 cw, .int .i64 vm] : Array Value) by kernel_rfl)); replace bel := p9.below bel (by omega); clear l9 n9 p9))
      exact bodyPost_ret (v := .agg #[.int .i64 vl, .int .i64 cw, .int .i64 vm]) (results_cell_row Tryd.results36 _ _ _ _ (#[.int .i64 vl, .int .i64 cw, .int .i64 vm]) _ _ rfl l1 Tryd.underlying27 rfl (by kernel_rfl)) rfl ⟨rfl, bel⟩
  · have c3 : w1.cell? ⟨w.heap.size, 3, none⟩ = some (.bool false) := (lies_cell l0 3).trans (by show some (Value.bool s.w.a) = _; rw [hw])
    have C1 := fun w => clampS x0 s.mn s.mx w
    rw [HC.out, show x0 = vd by rw [HX.out, if_neg (by rw [hw]; decide)]] at C1
    clear HC HX hw C0 ED
    have c9 : w1.cell? ⟨w.heap.size, 9, none⟩ = some (.int .i64 s.mn) := (lies_cell l0 9).trans rfl
    have c10 : w1.cell? ⟨w.heap.size, 10, none⟩ = some (.int .i64 s.mx) := (lies_cell l0 10).trans rfl
    have d1 : w1.cell? ⟨p, 1, none⟩ = some (.int .i64 vd) := (lies_cell l5 1).trans rfl
    go_wp2_with (first | (go_at_call 68; refine (C1 _).mono ?_; rintro e w' ⟨rfl, hw9⟩; have hw9 := hw9.symm; subst hw9) | ((with_reducible show wpList _ _ _ (⟨none, Op.store 3 (Operand.tmp 52) _, _, _, _, _⟩ :: _) _ _); refine wpList_putA rfl _ _ _ rfl rfl _ 1 3 [.int .i64 cw] _ _ rfl rfl l5 rfl (by kernel_rfl) (by kernel_rfl) (by kernel_rfl) ?_; intro w9 p9 l9 n9; replace l5 := l9.trans (congrArg (fun c => some (Obj.cells c 27 (0, 0))) (show _ = (#[.int .i64 vl, .int .i64 cw, .int .i64 vm] : Array Value) by kernel_rfl)); replace l0 := p9.lies l0 (by omega); replace l1 := p9.lies l1 (by omega); replace bel := p9.below bel (by omega); clear l9 n9 p9) | ((with_reducible show wpList _ _ _ (⟨some 53, Op.load 27 _, _, _, _, _⟩ :: _) _ _); refine wpList_load_row rfl 27 _ rfl (p) rfl _ (#[.int .i64 vl, .int .i64 cw, .int .i64 vm]) _ _ l5 Tryd.underlying27 rfl (by kernel_rfl) ?_) | ((with_reducible show wpList _ _ _ (⟨none, Op.store 27 (Operand.tmp 8) (Operand.tmp 53), _, _, _, _⟩ :: _) _ _); refine wpList_putA rfl _ _ _ rfl rfl _ 0 3 [.int .i64 vl, .int .i64 cw, .int .i64 vm] _ _ rfl rfl l1 rfl (by kernel_rfl) (by kernel_rfl) (by kernel_rfl) ?_; intro w9 p9 l9 n9; replace l1 := l9.trans (congrArg (fun c => some (Obj.cells c 27 (0, 0))) (show _ = (#[.int .i64 vl, .int .i64 cw, .int .i64 vm] : Array Value) by kernel_rfl)); replace bel := p9.below bel (by omega); clear l9 n9 p9))
    exact bodyPost_ret (v := .agg #[.int .i64 vl, .int .i64 cw, .int .i64 vm]) (results_cell_row Tryd.results36 _ _ _ _ (#[.int .i64 vl, .int .i64 cw, .int .i64 vm]) _ _ rfl l1 Tryd.underlying27 rfl (by kernel_rfl)) rfl ⟨rfl, bel⟩
end Go.Proofs.YtijondjiehoafaaDoor
