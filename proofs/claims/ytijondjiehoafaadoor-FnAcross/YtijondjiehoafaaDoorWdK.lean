/-
  The program's toldAcross (the sizes that a style gives across), and whether all of them are lengths.
-/
import Derived.Test.YtijondjiehoafaaDoorWdM
namespace Go.Proofs.YtijondjiehoafaaDoor
open Go.ChangeShapes Go.WideShapes Go.ChangeAt Go.RowKit
set_option linter.unusedVariables false

set_option maxHeartbeats 2000000 in
theorem percent_any (b n : Int) (w : World) (h1 : 0 ≤ b) (h2 : b ≤ 1000000) (h3 : -100000 ≤ n) (h4 : n ≤ 100000) :
    Calls Tryd.prog 65 #[.int .i64 b, .int .i64 n] w fun e w' => e = .returned (.int .i64 (down (b * n) 10000)) ∧ w' = w := by
  obtain ⟨m1, m2⟩ := prod_bd b n (by omega) h2 h3 h4
  obtain ⟨q1, q2⟩ := quot_bd (b * n) m1 m2
  by_cases ht : (b * n).tmod 10000 < 0
  · have HD : Hid (down (b * n) 10000 = (b * n).tdiv 10000 - 1) := down_lo ht
    go_enter Tryd.func65, Tryd.ntmps65
    go_wp2
    go_ret
    exact ⟨congrArg (fun x => Ending.returned (.int .i64 x)) HD.out.symm, rfl⟩
  · have HD : Hid (down (b * n) 10000 = (b * n).tdiv 10000) := down_hi ht
    go_enter Tryd.func65, Tryd.ntmps65
    go_wp2
    go_ret
    exact ⟨congrArg (fun x => Ending.returned (.int .i64 x)) HD.out.symm, rfl⟩
theorem sizeOr_any (a p : Bool) (n b : Int) (w : World) (hz : szB a p n = true) (hb : inB 0 1000000 b = true) :
    Calls Tryd.prog 86 #[.agg #[.bool a, .bool p, .int .i64 n], .int .i64 b] w fun e w' => e = .returned (.int .i64 (szN p n b)) ∧ Below w.heap.size w w' := by
  obtain ⟨b1, b2⟩ := inB_yes hb
  cases p
  · clear hz hb b1 b2
    have HS : Hid (szN false n b = n) := rfl
    generalize szN false n b = v at HS ⊢
    obtain rfl := HS.out
    clear HS
    go_enter Tryd.func86, Tryd.ntmps86
    go_wp2
    go_ret
    exact ⟨rfl, (Below.refl _ _).alloc (Nat.le_refl _) _⟩
  · obtain ⟨rfl, hn⟩ : a = false ∧ inB (-100000) 100000 n = true := by
      cases a
      · exact ⟨rfl, by simpa [szB] using hz⟩
      · simp [szB] at hz
    obtain ⟨n1, n2⟩ := inB_yes hn
    have T := fun w => percent_any b n w b1 b2 n1 n2
    have HS : Hid (szN true n b = down (b * n) 10000) := rfl
    generalize szN true n b = v at HS ⊢
    obtain rfl := HS.out
    generalize down (b * n) 10000 = v at T ⊢
    clear hz hb hn b1 b2 n1 n2 HS
    go_enter Tryd.func86, Tryd.ntmps86
    go_wp2_with fail
    refine (T _).mono ?_
    rintro e w1 ⟨rfl, hw⟩
    have hw := hw.symm
    subst hw
    go_wp2
    go_ret
    exact ⟨rfl, (Below.refl _ _).alloc (Nat.le_refl _) _⟩
def Sd (s : St) (w : World) (W : World) : Prop := Below w.heap.size w W ∧ W.heap[w.heap.size]? = some (.cells (stCells s) 32 (0, 0)) ∧ ∃ x y z : Int, W.heap[w.heap.size + 1]? = some (.cells #[.int .i64 x, .int .i64 y, .int .i64 z] 27 (0, 0))
theorem Sd_call {s : St} {w W W' : World} (h : Sd s w W) (hb : Below W.heap.size W W') : Sd s w W' := by
  obtain ⟨h1, h2, x, y, z, h3⟩ := h
  exact ⟨h1.trans (hb.mono h1.size), below_lies hb h2 (lies_lt h2), x, y, z, below_lies hb h3 (lies_lt h3)⟩

set_option maxRecDepth 100000 in
set_option maxHeartbeats 4000000 in
theorem told_any (s : St) (b : Int) (w : World) (hs : styleB s = true) (hb0 : inB 0 1000000 b = true) :
    Calls Tryd.prog 70 #[.agg #[.int .i64 s.sh, .int .i64 s.fl, .int .i64 s.cl, .bool s.w.a, .bool s.w.p, .int .i64 s.w.n, .bool s.h.a, .bool s.h.p, .int .i64 s.h.n, .int .i64 s.mn, .int .i64 s.mx, .int .i64 s.mt, .bool s.mr.a, .bool s.mr.p, .int .i64 s.mr.n, .int .i64 s.mb, .bool s.ml.a, .bool s.ml.p, .int .i64 s.ml.n, .int .i64 s.bo, .int .i64 s.pa, .int .i64 s.wh, .int .i64 s.al, .int .i64 s.lh, .int .i64 s.ri, .int .i64 s.dn], .int .i64 b] w fun e w' => e = .returned (.agg #[.int .i64 (mlN s b), .int .i64 (wdN s b), .int .i64 (mrN s b)]) ∧ Below w.heap.size w w' := by
  have hS : Sd s w ((w.alloc (.cells (#[.int .i64 s.sh, .int .i64 s.fl, .int .i64 s.cl, .bool s.w.a, .bool s.w.p, .int .i64 s.w.n, .bool s.h.a, .bool s.h.p, .int .i64 s.h.n, .int .i64 s.mn, .int .i64 s.mx, .int .i64 s.mt, .bool s.mr.a, .bool s.mr.p, .int .i64 s.mr.n, .int .i64 s.mb, .bool s.ml.a, .bool s.ml.p, .int .i64 s.ml.n, .int .i64 s.bo, .int .i64 s.pa, .int .i64 s.wh, .int .i64 s.al, .int .i64 s.lh, .int .i64 s.ri, .int .i64 s.dn]) 32)).alloc (.cells (#[.int .i64 0, .int .i64 0, .int .i64 0]) 27)).drew := ⟨(((Below.refl _ _).alloc (Nat.le_refl _) _).alloc (by simp) _).drew, heap_in (heap_at _ _ _ rfl), 0, 0, 0, heap_at _ _ _ (by simp)⟩
  obtain ⟨z1, z2, z3⟩ := style_sz hs
  have L := fun w => sizeOr_any s.ml.a s.ml.p s.ml.n b w z1 hb0
  have M := fun w => sizeOr_any s.mr.a s.mr.p s.mr.n b w z2 hb0
  have D := fun w => sizeOr_any s.w.a s.w.p s.w.n b w z3 hb0
  unfold mlN wdN mrN
  clear hs hb0 z1 z2 z3
  generalize szN s.ml.p s.ml.n b = vl at L ⊢
  generalize szN s.w.p s.w.n b = vd at D ⊢
  generalize szN s.mr.p s.mr.n b = vm at M ⊢
  go_enter Tryd.func70, Tryd.ntmps70
  go_wp2
  refine wp_region_held_drew (S := Sd s w) (by kernel_rfl) hS (fun hHeld => ?_)
  refine wpAnyH_take (i := 0) (oi := { dst := some 5, op := Op.fieldAddr 32 (Operand.tmp 2) 10, type := 0, pos := "l6_width.go:83", after := #[], guard := none }) (v := .pointer (some ⟨w.heap.size, 16, none⟩)) rfl (by kernel_rfl) (by kernel_rfl) (by kernel_rfl) (fun _ _ _ h => h) (Or.inl ⟨by rfl, by intro w hSw; go_simp⟩) hHeld ?_
  simp only [Act.put, List.setIfInBounds_toArray, List.set_cons_zero, List.set_cons_succ]
  refine wpAnyH_take (i := 1) (oi := { dst := some 6, op := Op.load 30 (Operand.tmp 5), type := 30, pos := "l6_width.go:83", after := #[⟨0, Ground.data⟩], guard := none }) (v := .agg #[.bool s.ml.a, .bool s.ml.p, .int .i64 s.ml.n]) rfl (by kernel_rfl) (by kernel_rfl) (by kernel_rfl) (fun _ _ _ h => h) (yieldsIf_load_mid (by rfl) 30 _ rfl (w.heap.size) 16 rfl ([.bool s.ml.a, .bool s.ml.p, .int .i64 s.ml.n]) _ (fun wz hw => range_part hw.2.1 16 rfl) Tryd.underlying30 rfl (by kernel_rfl)) hHeld ?_
  simp only [Act.put, List.setIfInBounds_toArray, List.set_cons_zero, List.set_cons_succ]
  refine wpAnyH_take (i := 2) (oi := { dst := some 7, op := Op.move (Operand.tmp 1), type := 3, pos := "l6_width.go:83", after := #[], guard := none }) (v := .int .i64 b) rfl (by kernel_rfl) (by kernel_rfl) (by kernel_rfl) (fun _ _ _ h => h) (Or.inl ⟨by rfl, by intro w hSw; go_simp⟩) hHeld ?_
  simp only [Act.put, List.setIfInBounds_toArray, List.set_cons_zero, List.set_cons_succ]
  refine wpAnyH_take (i := 4) (oi := { dst := some 9, op := Op.fieldAddr 32 (Operand.tmp 2) 3, type := 0, pos := "l6_width.go:83", after := #[], guard := none }) (v := .pointer (some ⟨w.heap.size, 3, none⟩)) rfl (by kernel_rfl) (by kernel_rfl) (by kernel_rfl) (fun _ _ _ h => h) (Or.inl ⟨by rfl, by intro w hSw; go_simp⟩) hHeld ?_
  simp only [Act.put, List.setIfInBounds_toArray, List.set_cons_zero, List.set_cons_succ]
  refine wpAnyH_take (i := 5) (oi := { dst := some 10, op := Op.load 30 (Operand.tmp 9), type := 30, pos := "l6_width.go:83", after := #[⟨4, Ground.data⟩], guard := none }) (v := .agg #[.bool s.w.a, .bool s.w.p, .int .i64 s.w.n]) rfl (by kernel_rfl) (by kernel_rfl) (by kernel_rfl) (fun _ _ _ h => h) (yieldsIf_load_mid (by rfl) 30 _ rfl (w.heap.size) 3 rfl ([.bool s.w.a, .bool s.w.p, .int .i64 s.w.n]) _ (fun wz hw => range_part hw.2.1 3 rfl) Tryd.underlying30 rfl (by kernel_rfl)) hHeld ?_
  simp only [Act.put, List.setIfInBounds_toArray, List.set_cons_zero, List.set_cons_succ]
  refine wpAnyH_take (i := 6) (oi := { dst := some 11, op := Op.move (Operand.tmp 1), type := 3, pos := "l6_width.go:83", after := #[], guard := none }) (v := .int .i64 b) rfl (by kernel_rfl) (by kernel_rfl) (by kernel_rfl) (fun _ _ _ h => h) (Or.inl ⟨by rfl, by intro w hSw; go_simp⟩) hHeld ?_
  simp only [Act.put, List.setIfInBounds_toArray, List.set_cons_zero, List.set_cons_succ]
  refine wpAnyH_take (i := 8) (oi := { dst := some 13, op := Op.fieldAddr 32 (Operand.tmp 2) 8, type := 0, pos := "l6_width.go:83", after := #[], guard := none }) (v := .pointer (some ⟨w.heap.size, 12, none⟩)) rfl (by kernel_rfl) (by kernel_rfl) (by kernel_rfl) (fun _ _ _ h => h) (Or.inl ⟨by rfl, by intro w hSw; go_simp⟩) hHeld ?_
  simp only [Act.put, List.setIfInBounds_toArray, List.set_cons_zero, List.set_cons_succ]
  refine wpAnyH_take (i := 9) (oi := { dst := some 14, op := Op.load 30 (Operand.tmp 13), type := 30, pos := "l6_width.go:83", after := #[⟨8, Ground.data⟩], guard := none }) (v := .agg #[.bool s.mr.a, .bool s.mr.p, .int .i64 s.mr.n]) rfl (by kernel_rfl) (by kernel_rfl) (by kernel_rfl) (fun _ _ _ h => h) (yieldsIf_load_mid (by rfl) 30 _ rfl (w.heap.size) 12 rfl ([.bool s.mr.a, .bool s.mr.p, .int .i64 s.mr.n]) _ (fun wz hw => range_part hw.2.1 12 rfl) Tryd.underlying30 rfl (by kernel_rfl)) hHeld ?_
  simp only [Act.put, List.setIfInBounds_toArray, List.set_cons_zero, List.set_cons_succ]
  refine wpAnyH_take (i := 10) (oi := { dst := some 15, op := Op.move (Operand.tmp 1), type := 3, pos := "l6_width.go:83", after := #[], guard := none }) (v := .int .i64 b) rfl (by kernel_rfl) (by kernel_rfl) (by kernel_rfl) (fun _ _ _ h => h) (Or.inl ⟨by rfl, by intro w hSw; go_simp⟩) hHeld ?_
  simp only [Act.put, List.setIfInBounds_toArray, List.set_cons_zero, List.set_cons_succ]
  refine wpAnyH_ready (rs := [3]) (by kernel_rfl) (by simp) ?_
  refine AllReadyH.cons (o := { dst := some 8, op := Op.call { callee := Callee.value (Operand.func 86), args := #[Operand.tmp 6, Operand.tmp 7], argTypes := #[30, 3] }, type := 3, pos := "l6_width.go:84", after := #[⟨1, Ground.data⟩, ⟨2, Ground.data⟩], guard := none }) rfl (fun K hK => ?_) AllReadyH.nil
  go_simp
  refine (L _).mono ?_
  rintro e w2 ⟨rfl, hb2⟩
  have hx2 := Sd_call hHeld hb2
  clear hb2
  go_wp2_with fail
  refine hK.out _ _ hx2 (fun hHeld2 => ?_)
  clear hK K
  try simp only [Act.put, List.setIfInBounds_toArray, List.set_cons_zero, List.set_cons_succ]
  refine wpAnyH_ready (rs := [7]) (by kernel_rfl) (by simp) ?_
  refine AllReadyH.cons (o := { dst := some 12, op := Op.call { callee := Callee.value (Operand.func 86), args := #[Operand.tmp 10, Operand.tmp 11], argTypes := #[30, 3] }, type := 3, pos := "l6_width.go:85", after := #[⟨5, Ground.data⟩, ⟨6, Ground.data⟩, ⟨3, Ground.chain⟩], guard := none }) rfl (fun K hK => ?_) AllReadyH.nil
  go_simp
  refine (D _).mono ?_
  rintro e w3 ⟨rfl, hb3⟩
  have hx3 := Sd_call hHeld2 hb3
  clear hb3
  go_wp2_with fail
  refine hK.out _ _ hx3 (fun hHeld3 => ?_)
  clear hK K
  try simp only [Act.put, List.setIfInBounds_toArray, List.set_cons_zero, List.set_cons_succ]
  refine wpAnyH_ready (rs := [11]) (by kernel_rfl) (by simp) ?_
  refine AllReadyH.cons (o := { dst := some 16, op := Op.call { callee := Callee.value (Operand.func 86), args := #[Operand.tmp 14, Operand.tmp 15], argTypes := #[30, 3] }, type := 3, pos := "l6_width.go:86", after := #[⟨9, Ground.data⟩, ⟨10, Ground.data⟩, ⟨7, Ground.chain⟩], guard := none }) rfl (fun K hK => ?_) AllReadyH.nil
  go_simp
  refine (M _).mono ?_
  rintro e w4 ⟨rfl, hb4⟩
  have hx4 := Sd_call hHeld3 hb4
  clear hb4
  go_wp2_with fail
  refine hK.out _ _ hx4 (fun hHeld4 => ?_)
  clear hK K
  try simp only [Act.put, List.setIfInBounds_toArray, List.set_cons_zero, List.set_cons_succ]
  refine wpAnyH_take (i := 12) (oi := { dst := some 17, op := Op.build 27 #[(0, Operand.tmp 8), (1, Operand.tmp 12), (2, Operand.tmp 16)], type := 27, pos := "l6_width.go:83", after := #[⟨3, Ground.data⟩, ⟨7, Ground.data⟩, ⟨11, Ground.data⟩], guard := none }) (v := .agg #[.int .i64 vl, .int .i64 vd, .int .i64 vm]) rfl (by kernel_rfl) (by kernel_rfl) (by kernel_rfl) (fun _ _ _ h => h) (Or.inl ⟨by rfl, by intro w hSw; go_simp⟩) hHeld4 ?_
  simp only [Act.put, List.setIfInBounds_toArray, List.set_cons_zero, List.set_cons_succ]
  refine wpAnyH_ready (rs := [13]) (by kernel_rfl) (by simp) ?_
  refine AllReadyH.cons (o := { dst := none, op := Op.store 27 (Operand.tmp 4) (Operand.tmp 17), type := 0, pos := "l6_width.go:83", after := #[⟨12, Ground.data⟩, ⟨11, Ground.chain⟩, ⟨0, Ground.phase⟩, ⟨1, Ground.phase⟩, ⟨2, Ground.phase⟩, ⟨3, Ground.phase⟩, ⟨4, Ground.phase⟩, ⟨5, Ground.phase⟩, ⟨6, Ground.phase⟩, ⟨7, Ground.phase⟩, ⟨8, Ground.phase⟩, ⟨9, Ground.phase⟩, ⟨10, Ground.phase⟩, ⟨11, Ground.phase⟩, ⟨12, Ground.phase⟩], guard := none }) rfl (fun K hK => ?_) AllReadyH.nil
  rw [if_pos (by rfl)]
  obtain ⟨x0, y0, z0, l1⟩ := hHeld4.2.2
  refine wp_putA 27 _ _ rfl rfl _ 0 3 [.int .i64 vl, .int .i64 vd, .int .i64 vm] _ _ rfl rfl l1 rfl (by kernel_rfl) (by kernel_rfl) (by kernel_rfl) ?_
  intro w9 p9 l9
  have l2 := l9.trans (congrArg (fun c => some (Obj.cells c 27 (0, 0))) (show _ = (#[.int .i64 vl, .int .i64 vd, .int .i64 vm] : Array Value) from rfl))
  have b9 := p9.below hHeld4.1 (by omega)
  refine hK.out _ _ ⟨b9, p9.lies hHeld4.2.1 (by omega), vl, vd, vm, l2⟩ (fun hHeld5 => ?_)
  clear hK K l9
  try simp only [Act.put, List.setIfInBounds_toArray, List.set_cons_zero, List.set_cons_succ]
  refine wpAnyH_done (by kernel_rfl) ?_ _
  clear hHeld hHeld2 hHeld3 hHeld4 hHeld5 hS L M D
  go_wp2
  exact bodyPost_ret (v := .agg #[.int .i64 vl, .int .i64 vd, .int .i64 vm]) (results_cell_row Tryd.results70 _ _ _ _ #[.int .i64 vl, .int .i64 vd, .int .i64 vm] _ _ rfl l2 Tryd.underlying27 rfl (by kernel_rfl)) rfl ⟨rfl, b9⟩
theorem implLen_any (n : Int) (w : World) : Calls Tryd.prog 48 #[.int .i64 n] w fun e w' => e = .returned (.bool (inB (-1000000) 1000000 n)) ∧ w' = w := by
  by_cases h1 : -1000000 ≤ n
  · by_cases h2 : n ≤ 1000000
    · go_enter Tryd.func48, Tryd.ntmps48
      go_wp2
      go_ret
      exact ⟨ret_bool (inB_is ⟨h1, h2⟩), rfl⟩
    · go_enter Tryd.func48, Tryd.ntmps48
      go_wp2
      go_ret
      exact ⟨ret_bool (inB_not (by omega)), rfl⟩
  · go_enter Tryd.func48, Tryd.ntmps48
    go_wp2
    go_ret
    exact ⟨ret_bool (inB_not (by omega)), rfl⟩
def lenB (l x r : Int) : Bool := inB (-1000000) 1000000 l && inB (-1000000) 1000000 x && inB (-1000000) 1000000 r
theorem hasLen_any (l x r : Int) (w : World) : Calls Tryd.prog 41 #[.agg #[.int .i64 l, .int .i64 x, .int .i64 r]] w fun e w' => e = .returned (.bool (lenB l x r)) ∧ Below w.heap.size w w' := by
  have GL := fun w => implLen_any l w
  have GX := fun w => implLen_any x w
  have GR := fun w => implLen_any r w
  have HB : Hid (lenB l x r = (inB (-1000000) 1000000 l && inB (-1000000) 1000000 x && inB (-1000000) 1000000 r)) := rfl
  generalize lenB l x r = y at HB ⊢
  generalize inB (-1000000) 1000000 l = bl at GL HB
  generalize inB (-1000000) 1000000 x = bx at GX HB
  generalize inB (-1000000) 1000000 r = br at GR HB
  obtain rfl := HB.out
  clear HB
  cases bl
  · go_enter Tryd.func41, Tryd.ntmps41
    go_wp2_with (go_at_call 48; refine (GL _).mono ?_; rintro e w' ⟨rfl, hw⟩; have hw := hw.symm; subst hw)
    go_ret
    exact ⟨rfl, (Below.refl _ _).alloc (Nat.le_refl _) _⟩
  cases bx
  · go_enter Tryd.func41, Tryd.ntmps41
    go_wp2_with fail
    refine (GL _).mono ?_
    rintro e w1 ⟨rfl, rfl⟩
    clear GL
    go_wp2_with fail
    refine (GX _).mono ?_
    rintro e w2 ⟨rfl, rfl⟩
    clear GX
    go_wp2
    go_ret
    exact ⟨rfl, (Below.refl _ _).alloc (Nat.le_refl _) _⟩
  go_enter Tryd.func41, Tryd.ntmps41
  go_wp2_with fail
  refine (GL _).mono ?_
  rintro e w1 ⟨rfl, rfl⟩
  clear GL
  go_wp2_with fail
  refine (GX _).mono ?_
  rintro e w2 ⟨rfl, rfl⟩
  clear GX
  go_wp2_with fail
  refine (GR _).mono ?_
  rintro e w3 ⟨rfl, rfl⟩
  clear GR
  go_wp2
  go_ret
  exact ⟨by cases br <;> rfl, (Below.refl _ _).alloc (Nat.le_refl _) _⟩
theorem loadG {P : Program} {ops : Array Oper} {rest : List Oper} {op : Oper} {a : Act} {w : World} {Q : Exit → Act → World → Prop} (hw : Region.wanted op (yielded ops a.tmps) = true) (ty : TypeId) (x : Operand) (ho : op.op = .load ty x)
    (b o : Nat) (hx : a.eval x = .pointer (some ⟨b, o, none⟩)) (cs : List Value) (d : TypeDesc) (hc : w.rangeAt b o cs)
    (hu : P.underlying ty = some d) (hd : d.isRow = true) (hi : (P.info? ty).map (·.size) = some cs.length)
    (h : wpList P ops Q rest (a.put op.dst (.agg cs.toArray)) w) : wpList P ops Q (op :: rest) a w :=
  wpList_step fun K hK => by rw [if_pos hw]; exact wp_load_mid ty x ho b o hx cs d hc hu hd hi (hK _ _ h)
theorem okA_is {s : St} {b : Int} (hs : styleB s = true) (hb : inB 0 1000000 b = true) : okA s b = lenB (mlN s b) (wdN s b) (mrN s b) := by
  unfold okA lenB
  rw [hs, hb]
  cases inB (-1000000) 1000000 (mlN s b) <;> cases inB (-1000000) 1000000 (wdN s b) <;> cases inB (-1000000) 1000000 (mrN s b) <;> rfl
theorem okA_yes {s : St} {b : Int} (h : okA s b = true) : styleB s = true ∧ inB 0 1000000 b = true ∧ inB (-1000000) 1000000 (mlN s b) = true ∧ inB (-1000000) 1000000 (wdN s b) = true ∧ inB (-1000000) 1000000 (mrN s b) = true := by
  unfold okA at h
  simp only [Bool.and_eq_true] at h
  exact ⟨h.1.1.1.1, h.1.1.1.2, h.1.1.2, h.2, h.1.2⟩
set_option maxRecDepth 100000 in
set_option maxHeartbeats 4000000 in
theorem isTold_any (s : St) (b : Int) (w : World) (et : TypeId) (ev : Value) (he : w.cell? ⟨1, 0, none⟩ = some (.iface et ev)) :
    Calls Tryd.prog 33 #[.agg #[.int .i64 s.sh, .int .i64 s.fl, .int .i64 s.cl, .bool s.w.a, .bool s.w.p, .int .i64 s.w.n, .bool s.h.a, .bool s.h.p, .int .i64 s.h.n, .int .i64 s.mn, .int .i64 s.mx, .int .i64 s.mt, .bool s.mr.a, .bool s.mr.p, .int .i64 s.mr.n, .int .i64 s.mb, .bool s.ml.a, .bool s.ml.p, .int .i64 s.ml.n, .int .i64 s.bo, .int .i64 s.pa, .int .i64 s.wh, .int .i64 s.al, .int .i64 s.lh, .int .i64 s.ri, .int .i64 s.dn], .int .i64 b] w fun e w' => e = .returned (.bool (okA s b)) ∧ Below w.heap.size w w' := by
  have l0 : (w.alloc (.cells (#[.int .i64 s.sh, .int .i64 s.fl, .int .i64 s.cl, .bool s.w.a, .bool s.w.p, .int .i64 s.w.n, .bool s.h.a, .bool s.h.p, .int .i64 s.h.n, .int .i64 s.mn, .int .i64 s.mx, .int .i64 s.mt, .bool s.mr.a, .bool s.mr.p, .int .i64 s.mr.n, .int .i64 s.mb, .bool s.ml.a, .bool s.ml.p, .int .i64 s.ml.n, .int .i64 s.bo, .int .i64 s.pa, .int .i64 s.wh, .int .i64 s.al, .int .i64 s.lh, .int .i64 s.ri, .int .i64 s.dn]) 32)).heap[w.heap.size]? = some (.cells (stCells s) 32 (0, 0)) := heap_at _ _ _ rfl
  have bel : Below w.heap.size w (w.alloc (.cells (#[.int .i64 s.sh, .int .i64 s.fl, .int .i64 s.cl, .bool s.w.a, .bool s.w.p, .int .i64 s.w.n, .bool s.h.a, .bool s.h.p, .int .i64 s.h.n, .int .i64 s.mn, .int .i64 s.mx, .int .i64 s.mt, .bool s.mr.a, .bool s.mr.p, .int .i64 s.mr.n, .int .i64 s.mb, .bool s.ml.a, .bool s.ml.p, .int .i64 s.ml.n, .int .i64 s.bo, .int .i64 s.pa, .int .i64 s.wh, .int .i64 s.al, .int .i64 s.lh, .int .i64 s.ri, .int .i64 s.dn]) 32)) := (Below.refl _ _).alloc (Nat.le_refl _) _
  have lte : 1 < w.heap.size := World.block_lt_of_cell? _ ⟨1, 0, none⟩ he
  have GS := implGoodStyle_any s (w.alloc (.cells (#[.int .i64 s.sh, .int .i64 s.fl, .int .i64 s.cl, .bool s.w.a, .bool s.w.p, .int .i64 s.w.n, .bool s.h.a, .bool s.h.p, .int .i64 s.h.n, .int .i64 s.mn, .int .i64 s.mx, .int .i64 s.mt, .bool s.mr.a, .bool s.mr.p, .int .i64 s.mr.n, .int .i64 s.mb, .bool s.ml.a, .bool s.ml.p, .int .i64 s.ml.n, .int .i64 s.bo, .int .i64 s.pa, .int .i64 s.wh, .int .i64 s.al, .int .i64 s.lh, .int .i64 s.ri, .int .i64 s.dn]) 32)) et ev ((bel.cell (p := ⟨1, 0, none⟩) lte).trans he)
  have EX := fun w => isExtent_any b w
  clear he
  cases hst : styleB s
  · have HK : Hid (okA s b = false) := by show _ = _; unfold okA; rw [hst]; rfl
    rw [hst] at GS
    rw [HK.out]
    clear hst HK
    go_enter Tryd.func33, Tryd.ntmps33
    go_wp2_with ((with_reducible show wpList _ _ _ (⟨some 5, Op.load 32 _, _, _, _, _⟩ :: _) _ _); refine wpList_load_row rfl 32 _ rfl (w.heap.size) rfl _ (stCells s) _ _ l0 Tryd.underlying32 rfl (by kernel_rfl) ?_)
    refine GS.mono ?_
    rintro e w1 ⟨rfl, hb⟩
    replace bel := bel.trans (hb.mono bel.size)
    clear hb
    go_wp2
    go_ret
    exact ⟨rfl, bel⟩
  cases hbx : inB 0 1000000 b
  · have HK : Hid (okA s b = false) := by show _ = _; unfold okA; rw [hst, hbx]; rfl
    rw [hst] at GS
    rw [hbx] at EX
    rw [HK.out]
    clear hst hbx HK
    go_enter Tryd.func33, Tryd.ntmps33
    go_wp2_with ((with_reducible show wpList _ _ _ (⟨some 5, Op.load 32 _, _, _, _, _⟩ :: _) _ _); refine wpList_load_row rfl 32 _ rfl (w.heap.size) rfl _ (stCells s) _ _ l0 Tryd.underlying32 rfl (by kernel_rfl) ?_)
    refine GS.mono ?_
    rintro e w1 ⟨rfl, hb⟩
    replace bel := bel.trans (hb.mono bel.size)
    clear hb
    go_wp2_with (go_at_call 37; refine (EX _).mono ?_; rintro e w' ⟨rfl, rfl⟩)
    go_ret
    exact ⟨rfl, bel⟩
  have TD := fun w => told_any s b w hst hbx
  have HL := fun w => hasLen_any (mlN s b) (wdN s b) (mrN s b) w
  rw [okA_is hst hbx]
  generalize lenB (mlN s b) (wdN s b) (mrN s b) = y at HL ⊢
  generalize mlN s b = vl at TD HL
  generalize wdN s b = vd at TD HL
  generalize mrN s b = vm at TD HL
  rw [hst] at GS
  rw [hbx] at EX
  clear hst hbx
  go_enter Tryd.func33, Tryd.ntmps33
  go_wp2_with ((with_reducible show wpList _ _ _ (⟨some 5, Op.load 32 _, _, _, _, _⟩ :: _) _ _); refine wpList_load_row rfl 32 _ rfl (w.heap.size) rfl _ (stCells s) _ _ l0 Tryd.underlying32 rfl (by kernel_rfl) ?_)
  refine GS.mono ?_
  rintro e w1 ⟨rfl, hb⟩
  replace bel := bel.trans (hb.mono bel.size)
  replace l0 := below_lies hb l0 (lies_lt l0)
  clear hb GS
  go_wp2_with (first | (go_at_call 37; refine (EX _).mono ?_; rintro e w' ⟨rfl, hw⟩; have hw := hw.symm; subst hw) | ((with_reducible show wpList _ _ _ (⟨some 12, Op.load 32 _, _, _, _, _⟩ :: _) _ _); refine loadG (by rfl) 32 _ rfl (w.heap.size) 0 rfl (stCells s).toList _ (range_lies l0) Tryd.underlying32 rfl (by kernel_rfl) ?_) | fail)
  refine (TD _).mono ?_
  rintro e w2 ⟨rfl, hb⟩
  replace bel := bel.trans (hb.mono bel.size)
  clear hb TD EX l0
  go_wp2_with fail
  refine (HL _).mono ?_
  rintro e w3 ⟨rfl, hb⟩
  replace bel := bel.trans (hb.mono bel.size)
  clear hb HL
  go_wp2
  go_ret
  exact ⟨rfl, bel⟩
end Go.Proofs.YtijondjiehoafaaDoor
