/-
  DrawBlockAcross: some style and some number.
-/
import Derived.Test.YtijondjiehoafaaDoorDrawSty
import Derived.Test.YtijondjiehoafaaDoorWdM
import Derived.Test.YtijondjiehoafaaDoorWdI
namespace Go.Proofs.YtijondjiehoafaaDoor
open Go.ChangeShapes Go.WideShapes Go.ChangeAt Go.RowKit
set_option linter.unusedVariables false

theorem CurOk.drewS {w : World} {b len cap m : Nat} {a : Option Addr} (h : CurOk w b a len cap m) : CurOk w.drew b a len cap m := h
/-- A cursor stays good where another block is written that its bytes do not lie in. -/
theorem CurOk.put_other {w w' : World} {b g len cap m : Nat} {a : Option Addr} (h : CurOk w b a len cap m) (p : Put g w w') (hb : b ≠ g) (ha : len = 0 ∨ ∀ cb off, a = some ⟨cb, off, none⟩ → cb ≠ g) : CurOk w' b a len cap m := by
  obtain ⟨hl, ⟨k, seed, hk, s0, s1, c0, c1, c2, f0, f1, f2⟩, hB⟩ := h
  have hh := p.other b hb
  refine ⟨hl, ⟨k, seed, hk, s0, s1, (World.cell?_of_block (a := ⟨b, 0, none⟩) hh).trans c0, (World.cell?_of_block (a := ⟨b, 1, none⟩) hh).trans c1, (World.cell?_of_block (a := ⟨b, 2, none⟩) hh).trans c2, (World.frozen?_of_block (a := ⟨b, 0, none⟩) hh).trans f0, (World.frozen?_of_block (a := ⟨b, 1, none⟩) hh).trans f1, (World.frozen?_of_block (a := ⟨b, 2, none⟩) hh).trans f2⟩, ?_⟩
  rcases hB with hB | ⟨cb, off, e, hnb, hc⟩
  · exact .inl hB
  · rcases ha with ha | ha
    · exact .inl ha
    · exact .inr ⟨cb, off, e, hnb, fun i hi => by
        obtain ⟨z, z0, z1, hz⟩ := hc i hi
        exact ⟨z, z0, z1, (World.cell?_of_block (a := ⟨cb, off + i, none⟩) (p.other cb (ha cb off e))).trans hz⟩⟩
set_option maxHeartbeats 1000000 in
theorem around_any (b len cap m : Nat) (a : Option Addr) (w : World) (hm : m ≤ 1000000000000) (hC : CurOk w b a len cap m) :
    Calls Tryd.prog 46 #[.pointer (some ⟨b, 0, none⟩)] w fun e w' => ∃ v : Int, e = .returned (.int .i64 v) ∧ CurOk w' b a len cap (m + 8) ∧ w.grownBy w' (some b) := by
  go_enter Tryd.func46, Tryd.ntmps46
  go_wp2_with fail
  refine (one_any b len cap m a 16 _ (by omega) hC (by omega) (by omega)).mono ?_
  rintro e w1 ⟨v1, rfl, hC1, hg1⟩
  have hlt := hC1.lt
  clear hC
  cases v1
  · go_wp2_with fail
    refine (pick_any b len cap (m + 2) a 900 _ (by omega) hC1 (by omega) (by omega)).mono ?_
    rintro e w2 ⟨x, rfl, x0, x1, hC2, hg2⟩
    have G := grown_trans hg1 hg2
    clear hC1 hg1 hg2
    go_wp2
    go_ret
    exact ⟨_, rfl, hC2.more (by omega), G⟩
  · have hbl := (Below.refl w1.heap.size w1).alloc (Nat.le_refl _) (.cells #[.int .i64 (-1), .int .i64 0, .int .i64 1000000, .int .i64 1000001] 3)
    have AM := among_any b len cap (m + 2) w1.heap.size 4 4 a (w1.alloc (.cells #[.int .i64 (-1), .int .i64 0, .int .i64 1000000, .int .i64 1000001] 3)) (by omega) (hC1.grown hbl) (by omega) (by omega) (by omega) (four_cells w1 _ _ _ _)
    go_wp2_with fail
    refine AM.mono ?_
    rintro e w2 ⟨x, rfl, hC2, hg2⟩
    have G := grown_trans (grown_trans hg1 (grown_of_below b hbl)) hg2
    clear hC1 hg1 hg2 AM hbl
    go_wp2
    go_ret
    exact ⟨_, rfl, hC2.more (by omega), G⟩
def Stay6 (p : Prop) : Prop := p
theorem stay6 {p : Prop} (h : Stay6 p) : p := h
def SdA (w : World) (g b len cap : Nat) (a : Option Addr) (s : St) (W : World) : Prop := W.heap[g]? = some (.cells (stCells s) 32 (0, 0)) ∧ (∃ c : Array Value, c.size = 26 ∧ W.heap[w.heap.size]? = some (.cells c 32 (0, 0))) ∧ Below w.heap.size w W
set_option maxRecDepth 100000 in
set_option maxHeartbeats 8000000 in
theorem drawBlock_any (a : Option Addr) (len cap : Nat) (w : World) (hl : len ≤ 1048576) (h : RowB w a len) :
    Calls Tryd.prog 17 #[.slice a len cap] w fun e w' => ∃ (s : St) (v : Int), e = .returned (.tuple #[.agg (stCells s), .int .i64 v]) ∧ Below w.heap.size w w' := by
  have HBY : Hid (∀ g, w.heap.size ≤ g → len = 0 ∨ ∀ cb off, a = some ⟨cb, off, none⟩ → cb ≠ g) := by
    show ∀ g, _
    intro g hg
    rcases h with h | ⟨cb, off, ha, hc⟩
    · exact .inl h
    · by_cases h0 : len = 0
      · exact .inl h0
      · refine .inr fun cb' off' e => ?_
        rw [ha] at e
        cases e
        obtain ⟨z, _, _, hz⟩ := hc 0 (by omega)
        have := cell_lt' hz
        omega
  have hbytes := HBY.out w.heap.size (Nat.le_refl _)
  have hC0 : CurOk ((w.alloc (.cells (#[.int .i64 0, .int .i64 0, .int .i64 0, .bool false, .bool false, .int .i64 0, .bool false, .bool false, .int .i64 0, .int .i64 0, .int .i64 0, .int .i64 0, .bool false, .bool false, .int .i64 0, .int .i64 0, .bool false, .bool false, .int .i64 0, .int .i64 0, .int .i64 0, .int .i64 0, .int .i64 0, .int .i64 0, .int .i64 0, .int .i64 0]) 32)).alloc (.cells #[.slice a len cap, .int .i64 0, .int .u64 0] 73)) (w.heap.size + 1) a len cap 0 := by
    have := cur_new (w.alloc (.cells (#[.int .i64 0, .int .i64 0, .int .i64 0, .bool false, .bool false, .int .i64 0, .bool false, .bool false, .int .i64 0, .int .i64 0, .int .i64 0, .int .i64 0, .bool false, .bool false, .int .i64 0, .int .i64 0, .bool false, .bool false, .int .i64 0, .int .i64 0, .int .i64 0, .int .i64 0, .int .i64 0, .int .i64 0, .int .i64 0, .int .i64 0]) 32)) a len cap hl (h.below ((Below.refl w.heap.size w).alloc (Nat.le_refl _) _))
    simpa using this
  have lr : ((w.alloc (.cells (#[.int .i64 0, .int .i64 0, .int .i64 0, .bool false, .bool false, .int .i64 0, .bool false, .bool false, .int .i64 0, .int .i64 0, .int .i64 0, .int .i64 0, .bool false, .bool false, .int .i64 0, .int .i64 0, .bool false, .bool false, .int .i64 0, .int .i64 0, .int .i64 0, .int .i64 0, .int .i64 0, .int .i64 0, .int .i64 0, .int .i64 0]) 32)).alloc (.cells #[.slice a len cap, .int .i64 0, .int .u64 0] 73)).heap[w.heap.size]? = some (.cells (stCells zeroSt) 32 (0, 0)) := heap_in (heap_at _ _ _ rfl)
  have B : Below w.heap.size w ((w.alloc (.cells (#[.int .i64 0, .int .i64 0, .int .i64 0, .bool false, .bool false, .int .i64 0, .bool false, .bool false, .int .i64 0, .int .i64 0, .int .i64 0, .int .i64 0, .bool false, .bool false, .int .i64 0, .int .i64 0, .bool false, .bool false, .int .i64 0, .int .i64 0, .int .i64 0, .int .i64 0, .int .i64 0, .int .i64 0, .int .i64 0, .int .i64 0]) 32)).alloc (.cells #[.slice a len cap, .int .i64 0, .int .u64 0] 73)) := ((Below.refl _ _).alloc (Nat.le_refl _) _).alloc (by simp) _
  obtain ⟨b, hb⟩ : ∃ b, b = w.heap.size + 1 := ⟨_, rfl⟩
  rw [← hb] at hC0
  have HB : Hid (w.heap.size < b) := by show _ < _; omega
  clear h
  go_enter Tryd.func17, Tryd.ntmps17
  go_wp2_with fail
  rw [← hb]
  refine (style_any b len cap 0 a _ (by omega) hC0).mono ?_
  rintro e w1 ⟨s, rfl, hC, hg⟩
  replace lr := gro_lies hg lr (by omega)
  replace B : Below w.heap.size w w1 := B.grown hg B.size (fun k hk => by cases hk; omega)
  have hlt := hC.lt
  have hbw : w.heap.size < b := HB.out
  clear hC0 hg hb HB
  go_wp2_with ((with_reducible show wpList _ _ _ (⟨none, Op.store 32 (Operand.tmp 5) (Operand.tmp 10), _, _, _, _⟩ :: _) _ _); refine wpList_store_new rfl 32 _ _ rfl rfl (stCells s) 32 _ _ rfl rfl rfl (by kernel_rfl) rfl (by kernel_rfl) ?_)
  obtain ⟨g, hg0⟩ : ∃ g, g = w1.heap.size := ⟨_, rfl⟩
  have ls : (w1.alloc (.cells (stCells s) 32)).heap[g]? = some (.cells (stCells s) 32 (0, 0)) := heap_at _ _ _ hg0.symm
  replace hC := hC.grown ((Below.refl w1.heap.size w1).alloc (Nat.le_refl _) (.cells (stCells s) 32))
  replace lr := heap_in (o := .cells (stCells s) 32) lr
  replace B := B.alloc B.size (.cells (stCells s) 32)
  have hgb : g ≠ b := by omega
  have HBG : Hid (len = 0 ∨ ∀ cb off, a = some ⟨cb, off, none⟩ → cb ≠ g) := HBY.out _ (by omega)
  have hgw : w.heap.size < g := by omega
  rw [← hg0]
  clear hg0
  refine (one_any b len cap (0 + 60) a 2 _ (by omega) hC (by omega) (by omega)).mono ?_
  rintro e w2 ⟨o, rfl, hC, hg⟩
  replace lr := gro_lies hg lr (by omega)
  replace ls := gro_lies hg ls hgb
  replace B : Below w.heap.size w w2 := B.grown hg B.size (fun k hk => by cases hk; omega)
  clear hg
  cases o
  · go_wp2
    refine wp_region_held_drew (S := SdA w g b len cap a s) (by kernel_rfl) ⟨ls, ⟨_, rfl, lr⟩, ⟨B.os, B.tape, B.output, B.size, B.block⟩⟩ (fun hHeld => ?_)
    refine wpAnyH_take (i := 0) (oi := { dst := some 22, op := Op.load 32 (Operand.tmp 5), type := 32, pos := "l6_width.go:121", after := #[], guard := none }) (v := .agg (stCells s).toList.toArray) rfl (by kernel_rfl) (by kernel_rfl) (by kernel_rfl) (fun _ _ _ h => h) (yieldsIf_load_mid (by rfl) 32 _ rfl g 0 rfl ((stCells s).toList) _ (fun wz hw => range_lies hw.1) Tryd.underlying32 rfl (by kernel_rfl)) hHeld ?_
    simp only [Act.put, List.setIfInBounds_toArray, List.set_cons_zero, List.set_cons_succ]
    refine wpAnyH_take (i := 1) (oi := { dst := some 23, op := Op.move (Operand.tmp 4), type := 70, pos := "l6_width.go:121", after := #[], guard := none }) (v := .pointer (some ⟨b, 0, none⟩)) rfl (by kernel_rfl) (by kernel_rfl) (by kernel_rfl) (fun _ _ _ h => h) (Or.inl ⟨by rfl, by intro wz hSw; go_simp⟩) hHeld ?_
    simp only [Act.put, List.setIfInBounds_toArray, List.set_cons_zero, List.set_cons_succ]
    refine wpAnyH_ready (rs := [2]) (by kernel_rfl) (by simp) ?_
    refine AllReadyH.cons (o := { dst := some 24, op := Op.call { callee := Callee.value (Operand.func 46), args := #[Operand.tmp 23], argTypes := #[70] }, type := 3, pos := "l6_width.go:121", after := #[⟨1, Ground.data⟩], guard := none }) rfl (fun K hK => ?_) AllReadyH.nil
    go_simp
    obtain ⟨ls5, _, B5⟩ := hHeld
    refine (around_any b len cap _ a _ (by omega) (CurOk.drewS hC)).mono ?_
    rintro e w5 ⟨v, rfl, hC5, hg5⟩
    have ls6 := gro_lies hg5 ls5 hgb
    have lr6 : w5.heap[w.heap.size]? = some (.cells (stCells zeroSt) 32 (0, 0)) := gro_lies hg5 lr (by omega)
    have B6 : Below w.heap.size w w5 := B5.grown hg5 B5.size (fun k hk => by cases hk; omega)
    clear ls5 B5
    go_wp2_with fail
    refine hK.out _ _ ⟨ls6, ⟨_, rfl, lr6⟩, B6⟩ (fun hHeld2 => ?_)
    clear hK K
    try simp only [Act.put, List.setIfInBounds_toArray, List.set_cons_zero, List.set_cons_succ]
    refine wpAnyH_ready (rs := [3]) (by kernel_rfl) (by simp) ?_
    refine AllReadyH.cons (o := { dst := none, op := Op.store 32 (Operand.tmp 2) (Operand.tmp 22), type := 0, pos := "l6_width.go:121", after := #[⟨0, Ground.data⟩, ⟨2, Ground.chain⟩, ⟨0, Ground.phase⟩, ⟨1, Ground.textOnly Departure.lateStores⟩, ⟨2, Ground.textOnly Departure.lateStoresUnsure⟩], guard := none }) rfl (fun K hK => ?_) AllReadyH.nil
    rw [if_pos (by rfl)]
    refine wp_putA 32 _ _ rfl rfl _ 0 26 (stCells s).toList _ _ rfl rfl lr6 rfl (by kernel_rfl) (by kernel_rfl) (by kernel_rfl) ?_
    intro w7 p9 l9
    have lr7 := l9.trans (congrArg (fun c => some (Obj.cells c 32 (0, 0))) (show _ = stCells s by kernel_rfl))
    have B7 := p9.below B6 (Nat.le_refl _)
    refine hK.out _ _ ⟨p9.lies ls6 (by omega), ⟨_, rfl, lr7⟩, B7⟩ (fun hHeld3 => ?_)
    clear hK K l9
    try simp only [Act.put, List.setIfInBounds_toArray, List.set_cons_zero, List.set_cons_succ]
    refine wpAnyH_take (i := 4) (oi := { dst := some 3, op := Op.assign (Operand.tmp 24), type := 3, pos := "l6_width.go:121", after := #[⟨2, Ground.data⟩, ⟨3, Ground.chain⟩, ⟨0, Ground.phase⟩, ⟨1, Ground.phase⟩, ⟨2, Ground.phase⟩, ⟨3, Ground.phase⟩], guard := none }) (v := .int .i64 v) rfl (by kernel_rfl) (by kernel_rfl) (by kernel_rfl) (fun _ _ _ h => h) (Or.inl ⟨by rfl, by intro wz hSw; go_simp⟩) hHeld3 ?_
    simp only [Act.put, List.setIfInBounds_toArray, List.set_cons_zero, List.set_cons_succ]
    refine wpAnyH_done (by kernel_rfl) ?_ _
    clear hHeld2 hHeld3
    go_wp2
    exact bodyPost_ret (v := .tuple #[.agg (stCells s), .int .i64 v]) (results_row_tmp Tryd.results17 _ _ _ _ (stCells s) _ _ _ rfl lr7 Tryd.underlying32 rfl (by kernel_rfl) rfl) rfl ⟨s, v, rfl, B7⟩
  · have hbyg : len = 0 ∨ ∀ cb off, a = some ⟨cb, off, none⟩ → cb ≠ g := HBG.out
    go_wp2_with fail
    refine (size_any b len cap _ a _ (by omega) hC).mono ?_
    rintro e w3 ⟨z, rfl, hC, hg⟩
    replace lr := gro_lies hg lr (by omega)
    replace ls := gro_lies hg ls hgb
    replace B : Below w.heap.size w w3 := B.grown hg B.size (fun k hk => by cases hk; omega)
    clear hg
    go_wp2_with ((with_reducible show wpList _ _ _ (⟨none, Op.store 30 (Operand.tmp 15) _, _, _, _, _⟩ :: _) _ _); refine wpList_putA rfl _ _ _ rfl rfl _ 3 26 [.bool z.a, .bool z.p, .int .i64 z.n] _ _ rfl rfl ls rfl (by kernel_rfl) (by kernel_rfl) (by kernel_rfl) ?_; intro w9 p9 l9 n9; replace ls := l9.trans (congrArg (fun c => some (Obj.cells c 32 (0, 0))) (show _ = stCells ({ s with w := z }) by kernel_rfl)); replace lr := p9.lies lr (by omega); replace B := p9.below B (by omega); replace hC := CurOk.put_other hC p9 (by omega) hbyg; clear l9 n9 p9; refine stay6 ?_)
    unfold Stay6
    obtain ⟨s, ls⟩ : ∃ s : St, w9.heap[g]? = some (.cells (stCells s) 32 (0, 0)) := ⟨_, ls⟩
    go_wp2_with fail
    refine (size_any b len cap _ a _ (by omega) hC).mono ?_
    rintro e w4 ⟨z, rfl, hC, hg⟩
    replace lr := gro_lies hg lr (by omega)
    replace ls := gro_lies hg ls hgb
    replace B : Below w.heap.size w w4 := B.grown hg B.size (fun k hk => by cases hk; omega)
    clear hg
    go_wp2_with ((with_reducible show wpList _ _ _ (⟨none, Op.store 30 (Operand.tmp 18) _, _, _, _, _⟩ :: _) _ _); refine wpList_putA rfl _ _ _ rfl rfl _ 16 26 [.bool z.a, .bool z.p, .int .i64 z.n] _ _ rfl rfl ls rfl (by kernel_rfl) (by kernel_rfl) (by kernel_rfl) ?_; intro w9 p9 l9 n9; replace ls := l9.trans (congrArg (fun c => some (Obj.cells c 32 (0, 0))) (show _ = stCells ({ s with ml := z }) by kernel_rfl)); replace lr := p9.lies lr (by omega); replace B := p9.below B (by omega); replace hC := CurOk.put_other hC p9 (by omega) hbyg; clear l9 n9 p9; refine stay6 ?_)
    unfold Stay6
    obtain ⟨s, ls⟩ : ∃ s : St, w9.heap[g]? = some (.cells (stCells s) 32 (0, 0)) := ⟨_, ls⟩
    go_wp2_with fail
    refine (size_any b len cap _ a _ (by omega) hC).mono ?_
    rintro e w5 ⟨z, rfl, hC, hg⟩
    replace lr := gro_lies hg lr (by omega)
    replace ls := gro_lies hg ls hgb
    replace B : Below w.heap.size w w5 := B.grown hg B.size (fun k hk => by cases hk; omega)
    clear hg
    go_wp2_with ((with_reducible show wpList _ _ _ (⟨none, Op.store 30 (Operand.tmp 21) _, _, _, _, _⟩ :: _) _ _); refine wpList_putA rfl _ _ _ rfl rfl _ 12 26 [.bool z.a, .bool z.p, .int .i64 z.n] _ _ rfl rfl ls rfl (by kernel_rfl) (by kernel_rfl) (by kernel_rfl) ?_; intro w9 p9 l9 n9; replace ls := l9.trans (congrArg (fun c => some (Obj.cells c 32 (0, 0))) (show _ = stCells ({ s with mr := z }) by kernel_rfl)); replace lr := p9.lies lr (by omega); replace B := p9.below B (by omega); replace hC := CurOk.put_other hC p9 (by omega) hbyg; clear l9 n9 p9; refine stay6 ?_)
    unfold Stay6
    obtain ⟨s, ls⟩ : ∃ s : St, w9.heap[g]? = some (.cells (stCells s) 32 (0, 0)) := ⟨_, ls⟩
    go_wp2
    refine wp_region_held_drew (S := SdA w g b len cap a s) (by kernel_rfl) ⟨ls, ⟨_, rfl, lr⟩, ⟨B.os, B.tape, B.output, B.size, B.block⟩⟩ (fun hHeld => ?_)
    refine wpAnyH_take (i := 0) (oi := { dst := some 22, op := Op.load 32 (Operand.tmp 5), type := 32, pos := "l6_width.go:121", after := #[], guard := none }) (v := .agg (stCells s).toList.toArray) rfl (by kernel_rfl) (by kernel_rfl) (by kernel_rfl) (fun _ _ _ h => h) (yieldsIf_load_mid (by rfl) 32 _ rfl g 0 rfl ((stCells s).toList) _ (fun wz hw => range_lies hw.1) Tryd.underlying32 rfl (by kernel_rfl)) hHeld ?_
    simp only [Act.put, List.setIfInBounds_toArray, List.set_cons_zero, List.set_cons_succ]
    refine wpAnyH_take (i := 1) (oi := { dst := some 23, op := Op.move (Operand.tmp 4), type := 70, pos := "l6_width.go:121", after := #[], guard := none }) (v := .pointer (some ⟨b, 0, none⟩)) rfl (by kernel_rfl) (by kernel_rfl) (by kernel_rfl) (fun _ _ _ h => h) (Or.inl ⟨by rfl, by intro wz hSw; go_simp⟩) hHeld ?_
    simp only [Act.put, List.setIfInBounds_toArray, List.set_cons_zero, List.set_cons_succ]
    refine wpAnyH_ready (rs := [2]) (by kernel_rfl) (by simp) ?_
    refine AllReadyH.cons (o := { dst := some 24, op := Op.call { callee := Callee.value (Operand.func 46), args := #[Operand.tmp 23], argTypes := #[70] }, type := 3, pos := "l6_width.go:121", after := #[⟨1, Ground.data⟩], guard := none }) rfl (fun K hK => ?_) AllReadyH.nil
    go_simp
    obtain ⟨ls5, _, B5⟩ := hHeld
    refine (around_any b len cap _ a _ (by omega) (CurOk.drewS hC)).mono ?_
    rintro e w5 ⟨v, rfl, hC5, hg5⟩
    have ls6 := gro_lies hg5 ls5 hgb
    have lr6 : w5.heap[w.heap.size]? = some (.cells (stCells zeroSt) 32 (0, 0)) := gro_lies hg5 lr (by omega)
    have B6 : Below w.heap.size w w5 := B5.grown hg5 B5.size (fun k hk => by cases hk; omega)
    clear ls5 B5
    go_wp2_with fail
    refine hK.out _ _ ⟨ls6, ⟨_, rfl, lr6⟩, B6⟩ (fun hHeld2 => ?_)
    clear hK K
    try simp only [Act.put, List.setIfInBounds_toArray, List.set_cons_zero, List.set_cons_succ]
    refine wpAnyH_ready (rs := [3]) (by kernel_rfl) (by simp) ?_
    refine AllReadyH.cons (o := { dst := none, op := Op.store 32 (Operand.tmp 2) (Operand.tmp 22), type := 0, pos := "l6_width.go:121", after := #[⟨0, Ground.data⟩, ⟨2, Ground.chain⟩, ⟨0, Ground.phase⟩, ⟨1, Ground.textOnly Departure.lateStores⟩, ⟨2, Ground.textOnly Departure.lateStoresUnsure⟩], guard := none }) rfl (fun K hK => ?_) AllReadyH.nil
    rw [if_pos (by rfl)]
    refine wp_putA 32 _ _ rfl rfl _ 0 26 (stCells s).toList _ _ rfl rfl lr6 rfl (by kernel_rfl) (by kernel_rfl) (by kernel_rfl) ?_
    intro w7 p9 l9
    have lr7 := l9.trans (congrArg (fun c => some (Obj.cells c 32 (0, 0))) (show _ = stCells s by kernel_rfl))
    have B7 := p9.below B6 (Nat.le_refl _)
    refine hK.out _ _ ⟨p9.lies ls6 (by omega), ⟨_, rfl, lr7⟩, B7⟩ (fun hHeld3 => ?_)
    clear hK K l9
    try simp only [Act.put, List.setIfInBounds_toArray, List.set_cons_zero, List.set_cons_succ]
    refine wpAnyH_take (i := 4) (oi := { dst := some 3, op := Op.assign (Operand.tmp 24), type := 3, pos := "l6_width.go:121", after := #[⟨2, Ground.data⟩, ⟨3, Ground.chain⟩, ⟨0, Ground.phase⟩, ⟨1, Ground.phase⟩, ⟨2, Ground.phase⟩, ⟨3, Ground.phase⟩], guard := none }) (v := .int .i64 v) rfl (by kernel_rfl) (by kernel_rfl) (by kernel_rfl) (fun _ _ _ h => h) (Or.inl ⟨by rfl, by intro wz hSw; go_simp⟩) hHeld3 ?_
    simp only [Act.put, List.setIfInBounds_toArray, List.set_cons_zero, List.set_cons_succ]
    refine wpAnyH_done (by kernel_rfl) ?_ _
    clear hHeld2 hHeld3
    go_wp2
    exact bodyPost_ret (v := .tuple #[.agg (stCells s), .int .i64 v]) (results_row_tmp Tryd.results17 _ _ _ _ (stCells s) _ _ _ rfl lr7 Tryd.underlying32 rfl (by kernel_rfl) rfl) rfl ⟨s, v, rfl, B7⟩
end Go.Proofs.YtijondjiehoafaaDoor
