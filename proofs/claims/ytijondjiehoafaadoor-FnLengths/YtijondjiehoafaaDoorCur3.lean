/-
  Contracts of the cursor's numbers: wide, sized and length answer some int.
-/
import Derived.Test.YtijondjiehoafaaDoorCur2
namespace Go.Proofs.YtijondjiehoafaaDoor
open Go.ChangeShapes Go.WideShapes Go.ChangeAt Go.RowKit
set_option linter.unusedVariables false

set_option maxHeartbeats 1000000 in
theorem wide_any (b len cap m : Nat) (a : Option Addr) (w : World) (hm : m ≤ 100000000000000) (hC : CurOk w b a len cap m) :
    Calls Tryd.prog 96 #[.pointer (some ⟨b, 0, none⟩)] w fun e w' => ∃ v : Int, e = .returned (.int .i64 v) ∧ CurOk w' b a len cap (m + 8) ∧ w.grownBy w' (some b) := by
  go_enter Tryd.func96, Tryd.ntmps96
  go_wp2
  go_loopw [3, 4] (fun n i wr => ∃ (k : Nat) (x : Int), k ≤ 8 ∧ i = .int .i64 k ∧ n = .int .i64 x ∧ CurOk wr b a len cap (m + k) ∧ w.grownBy wr (some b)) (fun _ i _ => 8 - (intOf i).toNat)
  case atStart => exact ⟨0, 0, Nat.zero_le _, rfl, rfl, hC, World.grownBy.refl _ _⟩
  case round =>
    obtain ⟨k, x, hk, rfl, rfl, hCr, hgr⟩ := hrel
    by_cases hlt : k < 8
    · have NX := next_any b len cap (m + k) a wr (by omega) hCr
      clear hC hCr
      go_wp2_with (go_at_call 81; refine NX.mono ?_; rintro e w1 ⟨v, rfl, v0, v1, hC1, hg1⟩)
      go_roundw
      case rel => exact ⟨k + 1, _, by omega, by go_num, rfl, hC1, grown_trans hgr hg1⟩
      case measure => simp [intOf]; omega
    · have e : k = 8 := by omega
      subst e
      go_wp2
      go_ret
      exact ⟨_, rfl, hCr, hgr⟩

set_option maxHeartbeats 2000000 in
theorem sized_any (b len cap m : Nat) (a : Option Addr) (w : World) (hm : m ≤ 10000000000000) (hC : CurOk w b a len cap m) :
    Calls Tryd.prog 82 #[.pointer (some ⟨b, 0, none⟩)] w fun e w' => ∃ v : Int, e = .returned (.int .i64 v) ∧ CurOk w' b a len cap (m + 40) ∧ w.grownBy w' (some b) := by
  have P1 := pick_any b len cap m a 5 w (by omega) hC (by omega) (by omega)
  clear hC
  go_enter Tryd.func82, Tryd.ntmps82
  go_wp2_with (go_at_call 58; have _t := P1; refine P1.mono ?_; rintro e w1 ⟨x, rfl, x0, x1, hC1, hg1⟩; have P2 := pick_any b len cap (m + 2) a 8 w1 (by omega) hC1 (by omega) (by omega); clear P1 hC1)
  refine P2.mono ?_
  rintro e w2 ⟨y, rfl, y0, y1, hC2, hg2⟩
  clear P2
  have hg := grown_trans hg1 hg2
  clear hg1 hg2
  have hy : y = 0 ∨ y = 1 ∨ y = 2 ∨ y = 3 ∨ 4 ≤ y := by omega
  rcases hy with rfl | rfl | rfl | rfl | hy
  · go_wp2_with fail
    refine (pick_any b len cap (m + 2 + 2) a 300 _ (by omega) hC2 (by omega) (by omega)).mono ?_
    rintro e w3 ⟨z, rfl, z0, z1, hC3, hg3⟩
    have hgs := grown_trans hg hg3
    clear hg hg3 hC2
    go_wp2_with fail
    refine (one_any b len cap (m + 2 + 2 + 2) a 3 _ (by omega) hC3 (by omega) (by omega)).mono ?_
    rintro e w9 ⟨o, rfl, hC9, hg9⟩
    have hgf := grown_trans hgs hg9
    clear hg9
    cases o <;>
    · go_wp2
      go_ret
      exact ⟨_, rfl, hC9.more (by omega), hgf⟩
  · go_wp2_with fail
    refine (wide_any b len cap (m + 2 + 2) a _ (by omega) hC2).mono ?_
    rintro e w3 ⟨z, rfl, hC3, hg3⟩
    have hgs := grown_trans hg hg3
    clear hg hg3 hC2
    go_wp2_with fail
    refine (pick_any b len cap (m + 2 + 2 + 8) a 64 _ (by omega) hC3 (by omega) (by omega)).mono ?_
    rintro e w4 ⟨u, rfl, u0, u1, hC4, hg4⟩
    have hgt := grown_trans hgs hg4
    clear hgs hg4 hC3
    go_wp2_with fail
    refine (one_any b len cap (m + 2 + 2 + 8 + 2) a 3 _ (by omega) hC4 (by omega) (by omega)).mono ?_
    rintro e w9 ⟨o, rfl, hC9, hg9⟩
    have hgf := grown_trans hgt hg9
    clear hg9
    cases o <;>
    · go_wp2
      go_ret
      exact ⟨_, rfl, hC9.more (by omega), hgf⟩
  · go_wp2_with fail
    refine (pick_any b len cap (m + 2 + 2) a 64 _ (by omega) hC2 (by omega) (by omega)).mono ?_
    rintro e w3 ⟨z, rfl, z0, z1, hC3, hg3⟩
    have hgs := grown_trans hg hg3
    clear hg hg3 hC2
    go_wp2_with fail
    refine (one_any b len cap (m + 2 + 2 + 2) a 3 _ (by omega) hC3 (by omega) (by omega)).mono ?_
    rintro e w9 ⟨o, rfl, hC9, hg9⟩
    have hgf := grown_trans hgs hg9
    clear hg9
    cases o <;>
    · go_wp2
      go_ret
      exact ⟨_, rfl, hC9.more (by omega), hgf⟩
  · go_wp2_with fail
    refine (pick_any b len cap (m + 2 + 2) a 64 _ (by omega) hC2 (by omega) (by omega)).mono ?_
    rintro e w3 ⟨z, rfl, z0, z1, hC3, hg3⟩
    have hgs := grown_trans hg hg3
    clear hg hg3 hC2
    go_wp2_with fail
    refine (one_any b len cap (m + 2 + 2 + 2) a 3 _ (by omega) hC3 (by omega) (by omega)).mono ?_
    rintro e w9 ⟨o, rfl, hC9, hg9⟩
    have hgf := grown_trans hgs hg9
    clear hg9
    cases o <;>
    · go_wp2
      go_ret
      exact ⟨_, rfl, hC9.more (by omega), hgf⟩
  · go_wp2_with fail
    refine (one_any b len cap (m + 2 + 2) a 3 _ (by omega) hC2 (by omega) (by omega)).mono ?_
    rintro e w9 ⟨o, rfl, hC9, hg9⟩
    have hgf := grown_trans hg hg9
    clear hg9
    cases o <;>
    · go_wp2
      go_ret
      exact ⟨_, rfl, hC9.more (by omega), hgf⟩

theorem four_cells (w : World) (x0 x1 x2 x3 : Int) (i : Nat) (hi : i < 4) : ∃ z : Int, (w.alloc (.cells #[.int .i64 x0, .int .i64 x1, .int .i64 x2, .int .i64 x3] 3)).cell? ⟨w.heap.size, i, none⟩ = some (.int .i64 z) := by
  have : i = 0 ∨ i = 1 ∨ i = 2 ∨ i = 3 := by omega
  rcases this with rfl | rfl | rfl | rfl
  · exact ⟨x0, by simp⟩
  · exact ⟨x1, by simp⟩
  · exact ⟨x2, by simp⟩
  · exact ⟨x3, by simp⟩
theorem CurOk.grown {w w' : World} {b : Nat} {a : Option Addr} {len cap m : Nat} (h : CurOk w b a len cap m) (hb : Below w.heap.size w w') : CurOk w' b a len cap m := by
  have hlt := h.lt
  obtain ⟨hl, ⟨k, seed, hk, s0, s1, h0, h1, h2, f0, f1, f2⟩, hB⟩ := h
  refine ⟨hl, ⟨k, seed, hk, s0, s1, (hb.cell hlt).trans h0, (hb.cell hlt).trans h1, (hb.cell hlt).trans h2, (hb.frozen hlt).trans f0, (hb.frozen hlt).trans f1, (hb.frozen hlt).trans f2⟩, ?_⟩
  rcases hB with hB | ⟨cb, off, ha, hne, hc⟩
  · exact .inl hB
  · exact .inr ⟨cb, off, ha, hne, fun i hi => by obtain ⟨z, z0, z1, hz⟩ := hc i hi; exact ⟨z, z0, z1, (hb.cell (cell_lt' hz)).trans hz⟩⟩
theorem grown_of_below {w w' : World} (b : Nat) (hb : Below w.heap.size w w') : w.grownBy w' (some b) := ⟨hb.os, hb.tape, hb.output, hb.size, fun k hk _ => hb.block k hk⟩

set_option maxHeartbeats 2000000 in
theorem length_any (b len cap m : Nat) (a : Option Addr) (w : World) (hm : m ≤ 1000000000000) (hC : CurOk w b a len cap m) :
    Calls Tryd.prog 59 #[.pointer (some ⟨b, 0, none⟩)] w fun e w' => ∃ v : Int, e = .returned (.int .i64 v) ∧ CurOk w' b a len cap (m + 50) ∧ w.grownBy w' (some b) := by
  have P1 := pick_any b len cap m a 12 w (by omega) hC (by omega) (by omega)
  clear hC
  go_enter Tryd.func59, Tryd.ntmps59
  go_wp2_with fail
  refine P1.mono ?_
  rintro e w1 ⟨x, rfl, x0, x1, hC1, hg1⟩
  clear P1
  have hx : x = 0 ∨ x = 1 ∨ 2 ≤ x := by omega
  rcases hx with rfl | rfl | hx
  · have hlt := hC1.lt
    have hbl := (Below.refl w1.heap.size w1).alloc (Nat.le_refl _) (.cells #[.int .i64 1000000, .int .i64 (-1000000), .int .i64 1000001, .int .i64 (-1000001)] 3)
    have AM := among_any b len cap (m + 2) w1.heap.size 4 4 a (w1.alloc (.cells #[.int .i64 1000000, .int .i64 (-1000000), .int .i64 1000001, .int .i64 (-1000001)] 3)) (by omega) (hC1.grown hbl) (by omega) (by omega) (by omega) (four_cells w1 _ _ _ _)
    clear hC1
    go_wp2_with fail
    refine AM.mono ?_
    rintro e w2 ⟨v, rfl, hC2, hg2⟩
    go_wp2
    go_ret
    exact ⟨_, rfl, hC2.more (by omega), grown_trans hg1 (grown_trans (grown_of_below b hbl) hg2)⟩
  · have SZ := sized_any b len cap (m + 2) a w1 (by omega) hC1
    clear hC1
    go_wp2_with fail
    refine SZ.mono ?_
    rintro e w2 ⟨v, rfl, hC2, hg2⟩
    go_wp2
    go_ret
    exact ⟨_, rfl, hC2.more (by omega), grown_trans hg1 hg2⟩
  · have P2 := pick_any b len cap (m + 2) a 80 w1 (by omega) hC1 (by omega) (by omega)
    clear hC1
    go_wp2_with fail
    refine P2.mono ?_
    rintro e w2 ⟨v, rfl, v0, v1, hC2, hg2⟩
    go_wp2
    go_ret
    exact ⟨_, rfl, hC2.more (by omega), grown_trans hg1 hg2⟩
end Go.Proofs.YtijondjiehoafaaDoor
