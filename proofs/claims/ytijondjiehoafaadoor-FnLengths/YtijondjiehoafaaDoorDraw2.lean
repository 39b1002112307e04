/-
  Contract of the drawn margins: DrawJoinMargins answers a row of at most 41 ints and leaves all older memory alone, for every byte slice of at most 1048576 bytes.
-/
import Derived.Test.YtijondjiehoafaaDoorDraw1
import Derived.Test.YtijondjiehoafaaDoorRowInts
namespace Go.Proofs.YtijondjiehoafaaDoor
open Go.ChangeShapes Go.WideShapes Go.ChangeAt Go.RowKit
set_option linter.unusedVariables false

/-- What is owned reads as a row. -/
theorem row_of_own {w : World} {base n : Nat} {v : Value} {zs : List Int} (h : w.ownsRow base 3 1 v n (zs.map (Value.int .i64))) :
    ∃ (a : Option Addr) (cap : Nat), v = .slice a zs.length cap ∧ Row w a zs := by
  have hl : zs.length = n := by simpa using h.1
  have h' := h
  rcases h.2 with ⟨rfl, hn⟩ | ⟨g, cap, cur, rfl, _, _, _, _, _, _⟩
  · have : zs = [] := List.eq_nil_of_length_eq_zero (by omega)
    subst this
    exact ⟨none, 0, rfl, .inl rfl⟩
  · refine ⟨some ⟨g, 0, none⟩, cap, by rw [hl], .inr ⟨g, 0, rfl, fun i hi => ?_⟩⟩
    rw [Nat.zero_add, h'.cellAt i (by omega), List.getElem?_map, List.getD_eq_getElem?_getD, List.getElem?_eq_getElem hi]
    rfl
theorem own_apart {w : World} {B n : Nat} {v : Value} {xs : List Value} (h : w.ownsRow (B + 1) 3 1 v n xs) : v.ownBlock = none ∨ v.ownBlock ≠ some B := by
  rcases h.2 with ⟨rfl, _⟩ | ⟨g, cap, cur, rfl, hb, _⟩
  · exact .inl rfl
  · refine .inr ?_
    show some g ≠ some B
    simp; omega
theorem own_from {w : World} {B n : Nat} {v : Value} {xs : List Value} (h : w.ownsRow (B + 1) 3 1 v n xs) (k : Nat) (hk : v.ownBlock = some k) : B ≤ k ∧ k ≠ B := by
  rcases h.2 with ⟨rfl, _⟩ | ⟨g, cap, cur, rfl, hb, _⟩
  · cases hk
  · have : g = k := Option.some.inj hk
    omega
/-- A cursor stays good where its block has not turned. -/
theorem CurOk.other {w w' : World} {b : Nat} {a : Option Addr} {len cap m : Nat} {row : Option Nat} (h : CurOk w b a len cap m) (hg : w.grownBy w' row) (hne : some b ≠ row) (hB : ∀ k, row = some k → b < k) (hin : ∀ cb off, a = some ⟨cb, off, none⟩ → 0 < len → cb < b) : CurOk w' b a len cap m := by
  have hlt := h.lt
  obtain ⟨hl, ⟨k, seed, hk, s0, s1, h0, h1, h2, f0, f1, f2⟩, hBy⟩ := h
  have hb := hg.block b hlt hne
  refine ⟨hl, ⟨k, seed, hk, s0, s1, (World.cell?_of_block (a := ⟨b, 0, none⟩) hb).trans h0, (World.cell?_of_block (a := ⟨b, 1, none⟩) hb).trans h1, (World.cell?_of_block (a := ⟨b, 2, none⟩) hb).trans h2, (World.frozen?_of_block (a := ⟨b, 0, none⟩) hb).trans f0, (World.frozen?_of_block (a := ⟨b, 1, none⟩) hb).trans f1, (World.frozen?_of_block (a := ⟨b, 2, none⟩) hb).trans f2⟩, ?_⟩
  rcases hBy with hBy | ⟨cb, off, ha, hnb, hc⟩
  · exact .inl hBy
  · refine .inr ⟨cb, off, ha, hnb, fun i hi => ?_⟩
    obtain ⟨z, z0, z1, hz⟩ := hc i hi
    have hcb := hin cb off ha (by omega)
    have : some cb ≠ row := fun e => by have := hB cb e.symm; omega
    exact ⟨z, z0, z1, (World.cell?_of_block (a := ⟨cb, off + i, none⟩) (hg.block cb (cell_lt' hz) this)).trans hz⟩

theorem made_zeros (n : Nat) : (madeCells (Value.int .i64 0).cells (n * 1)).toList = (List.replicate n (0 : Int)).map (Value.int .i64) := by
  rw [Nat.mul_one, List.map_replicate]
  apply List.ext_getElem
  · simp [madeCells]
  · intro i h1 h2
    simp [madeCells, Value.cells, Nat.mod_one]
theorem one_cell (v : Int) : ∀ u ∈ [Value.int .i64 v], u.oneCell' = true := by
  intro u hu
  simp at hu
  subst hu
  rfl
set_option maxHeartbeats 2000000 in
theorem drawJoin_any (a : Option Addr) (len cap : Nat) (w : World) (hl : len ≤ 1048576) (h : RowB w a len) :
    Calls Tryd.prog 22 #[.slice a len cap] w fun e w' => ∃ (zs : List Int) (a' : Option Addr) (cap' : Nat), e = .returned (.slice a' zs.length cap') ∧ zs.length ≤ 41 ∧ Row w' a' zs ∧ Below w.heap.size w w' := by
  have hin : ∀ cb off, a = some ⟨cb, off, none⟩ → 0 < len → cb < w.heap.size := by
    intro cb off ha hp
    rcases h with h | ⟨cb', off', ha', hc⟩
    · omega
    · rw [ha] at ha'
      obtain ⟨z, _, _, hz⟩ := hc 0 hp
      have := cell_lt' hz
      cases ha'
      exact this
  obtain ⟨i0, hi, hz0, hz1, hz2⟩ := info_parts Tryd.infoInt
  have P := pick_any w.heap.size len cap 0 a 6 _ (by omega) (cur_new w a len cap hl h) (by omega) (by omega)
  clear h
  go_enter Tryd.func22, Tryd.ntmps22
  go_wp2_with fail
  refine P.mono ?_
  rintro e w1 ⟨x, rfl, x0, x1, hC1, hg1⟩
  clear P
  have hb1 := below_new hg1
  clear hg1
  go_wp2_with fail
  go_loopw [4, 5] (fun l n wr => ∃ (k : Nat) (zs : List Int), k ≤ 5 ∧ zs.length + k ≤ 5 ∧ n = .int .i64 k ∧ wr.ownsRow (w.heap.size + 1) 3 1 l zs.length (zs.map (Value.int .i64)) ∧ CurOk wr w.heap.size a len cap (2 + 50 * (5 - k)) ∧ Below w.heap.size w wr) (fun _ n _ => (intOf n).toNat)
  case atStart => exact ⟨x.toNat, [], by omega, by simp; omega, by rw [show ((x.toNat : Nat) : Int) = x by omega], World.ownsRow_nil _ _ _ _, hC1.more (by omega), hb1⟩
  case round =>
    obtain ⟨k, zs, hk, hzk, rfl, hown, hC, hbw⟩ := hrel
    clear hC1 hb1
    by_cases hp : 0 < k
    · have LN := length_any w.heap.size len cap (2 + 50 * (5 - k)) a wr (by omega) hC
      have hlt := hC.lt
      clear hC
      go_wp2_with (first | (go_at_call 59; refine LN.mono ?_; rintro e w2 ⟨v, rfl, hC2, hg2⟩; have hown2 := hown.kept hg2 (own_apart hown)) | (at_builtin; refine wpList_append_own _ rfl (.tmp 15) (.tmp 18) 51 rfl (w.heap.size + 1) 3 i0 (.int .i64 0) 1 8 Tryd.underlying51 hi hz0 hz1 hz2 rfl (by decide) _ _ _ rfl (hown2.alloc _) ⟨w2.heap.size, 0, none⟩ 1 1 [.int .i64 v] rfl rfl (cell_one_new _ _ _) (one_cell v) (by unfold maxLen; omega) (by omega) (by have := hg2.size; simp; omega) ?_))
      intro v' w3 hown3 hgrow _
      have hs2 := hg2.size
      have R1 : w3.ownsRow (w.heap.size + 1) 3 1 v' (zs ++ [v]).length ((zs ++ [v]).map (Value.int .i64)) := by
        rw [List.map_append, List.length_append]; exact hown3
      have R2 : CurOk w3 w.heap.size a len cap (2 + 50 * (5 - (k - 1))) :=
        ((hC2.grown ((Below.refl w2.heap.size w2).alloc (Nat.le_refl _) _)).other hgrow (by rcases own_apart hown with h | h; · rw [h]; simp
                                                                                            · exact fun e => h e.symm) (fun j hj => by have := own_from hown j hj; omega) hin).more (by omega)
      have R3 : Below w.heap.size w w3 := ((hbw.grown hg2 (by omega) (fun j hj => by cases hj; omega)).alloc (by omega) _).grown hgrow (by simp; omega) (fun j hj => (own_from hown j hj).1)
      clear hown3 hgrow hown2 hC2 hg2 hown hbw LN hs2
      go_wp2
      go_roundw
      case rel => exact ⟨k - 1, zs ++ [v], by omega, by simp; omega, by go_num, R1, R2, R3⟩
      case measure => simp [intOf]; omega
    · have ek : k = 0 := by omega
      subst ek
      go_wp2_with fail
      refine (one_any w.heap.size len cap _ a 30 _ ?_ hC (by omega) (by omega)).mono ?_
      · omega
      rintro e w2 ⟨o, rfl, hC2, hg2⟩
      have hs2 := hg2.size
      have hlt := hC.lt
      have hb2 := hbw.grown hg2 (by omega) (fun j hj => by cases hj; omega)
      have hown2 := hown.kept hg2 (own_apart hown)
      clear hbw hown hC hg2
      cases o with
      | false =>
        obtain ⟨a', cap', hv, hr⟩ := row_of_own hown2
        clear hown2 hC2
        go_wp2
        go_ret
        exact ⟨zs, a', cap', rfl, by omega, hr, hb2⟩
      | true =>
        have P2 := pick_any w.heap.size len cap _ a 2 w2 ?_ hC2 (by omega) (by omega)
        rotate_left
        · omega
        clear hC2 hown2
        go_wp2_with fail
        refine P2.mono ?_
        rintro e w3 ⟨y, rfl, y0, y1, hC3, hg3⟩
        have hs3 := hg3.size
        have hb3 := hb2.grown hg3 (by omega) (fun j hj => by cases hj; omega)
        clear hC3 P2 hb2 hg3
        go_wp2_with (at_make; refine wpList_make_full _ rfl (.tmp 24) (.tmp 24) 51 rfl w.heap.size 3 i0 (.int .i64 0) 1 Tryd.underlying51 hi hz0 hz1 .i64 .i64 (40 + y) (40 + y) (40 + y).toNat rfl rfl (by omega) (by omega) (by rw [hz2]; omega) (by unfold maxLen; omega) (by omega) ?_; intro w4 hown4 hgrow4)
        have hb4 := hb3.grown hgrow4 (by omega) (by intro j hj; cases hj)
        have hz : (madeCells (Value.int .i64 0).cells ((40 + y).toNat * 1)).toList = (List.replicate (40 + y).toNat (0 : Int)).map (Value.int .i64) := made_zeros _
        rw [hz] at hown4
        obtain ⟨a', cap', hv, hr⟩ := row_of_own hown4
        clear hown4 hgrow4 hb3 hz
        go_ret
        exact ⟨List.replicate (40 + y).toNat 0, a', cap', congrArg Ending.returned hv, by simp; omega, hr, hb4⟩
end Go.Proofs.YtijondjiehoafaaDoor
