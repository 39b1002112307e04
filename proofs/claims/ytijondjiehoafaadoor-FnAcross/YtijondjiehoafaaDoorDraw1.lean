/-
  Contracts of the drawn lengths: DrawGoodLength, DrawPixelsText and DrawPercentOf answer some ints and leave all older memory alone, for every byte slice of at most 1048576 bytes.
-/
import Derived.Test.YtijondjiehoafaaDoorCur3
namespace Go.Proofs.YtijondjiehoafaaDoor
open Go.ChangeShapes Go.WideShapes Go.ChangeAt Go.RowKit
set_option linter.unusedVariables false

/-- A byte slice that can be read. -/
def RowB (w : World) (a : Option Addr) (len : Nat) : Prop :=
  len = 0 ∨ ∃ cb off, a = some ⟨cb, off, none⟩ ∧ ∀ i, i < len → ∃ z : Int, 0 ≤ z ∧ z ≤ 255 ∧ w.cell? ⟨cb, off + i, none⟩ = some (.int .u8 z)
theorem RowB.below {w w' : World} {a : Option Addr} {len : Nat} (h : RowB w a len) (hb : Below w.heap.size w w') : RowB w' a len := by
  rcases h with h | ⟨cb, off, ha, hc⟩
  · exact .inl h
  · exact .inr ⟨cb, off, ha, fun i hi => by obtain ⟨z, z0, z1, hz⟩ := hc i hi; exact ⟨z, z0, z1, (hb.cell (cell_lt' hz)).trans hz⟩⟩
/-- A new cursor is good. -/
theorem cur_new (w : World) (a : Option Addr) (len cap : Nat) (hl : len ≤ 1048576) (h : RowB w a len) :
    CurOk (w.alloc (.cells #[.slice a len cap, .int .i64 0, .int .u64 0] 73)) w.heap.size a len cap 0 := by
  refine ⟨hl, ⟨0, 0, Nat.le_refl _, by omega, by omega, by simp, by simp, by simp, by simp, by simp, by simp⟩, ?_⟩
  rcases h with h | ⟨cb, off, ha, hc⟩
  · exact .inl h
  · by_cases h0 : len = 0
    · exact .inl h0
    · have hlt : cb < w.heap.size := by obtain ⟨z, _, _, hz⟩ := hc 0 (by omega); exact cell_lt' hz
      exact .inr ⟨cb, off, ha, by omega, fun i hi => by obtain ⟨z, z0, z1, hz⟩ := hc i hi; exact ⟨z, z0, z1, (World.cell?_alloc_lt _ _ _ hlt).trans hz⟩⟩
/-- What turned the cursor alone turned nothing older. -/
theorem below_new {w w' : World} {o : Obj} (h : (w.alloc o).grownBy w' (some w.heap.size)) : Below w.heap.size w w' :=
  ⟨h.os, h.tape, h.output, Nat.le_trans (by simp) h.size, fun k hk => (h.block k (by simp; omega) (by simp; omega)).trans (Below.heap_alloc w o k hk)⟩

set_option maxHeartbeats 1000000 in
theorem drawGood_any (a : Option Addr) (len cap : Nat) (w : World) (hl : len ≤ 1048576) (h : RowB w a len) :
    Calls Tryd.prog 47 #[.slice a len cap] w fun e w' => ∃ v : Int, e = .returned (.int .i64 v) ∧ Below w.heap.size w w' := by
  have L := length_any w.heap.size len cap 0 a _ (by omega) (cur_new w a len cap hl h)
  clear h
  go_enter Tryd.func47, Tryd.ntmps47
  go_wp2_with fail
  refine L.mono ?_
  rintro e w1 ⟨v, rfl, hC, hg⟩
  go_wp2
  go_ret
  exact ⟨_, rfl, below_new hg⟩

theorem drawPixels_any (a : Option Addr) (len cap : Nat) (w : World) (hl : len ≤ 1048576) (h : RowB w a len) :
    Calls Tryd.prog 18 #[.slice a len cap] w fun e w' => ∃ v : Int, e = .returned (.int .i64 v) ∧ Below w.heap.size w w' := by
  have L := drawGood_any a len cap w hl h
  clear h
  go_enter Tryd.func18, Tryd.ntmps18
  go_wp2_with (go_at_call 47; refine L.mono ?_; rintro e w1 ⟨v, rfl, hb⟩)
  go_ret
  exact ⟨_, rfl, hb⟩

theorem five_draw (w : World) (x0 x1 x2 x3 x4 : Int) (i : Nat) (hi : i < 5) : ∃ z : Int, (w.alloc (.cells #[.int .i64 x0, .int .i64 x1, .int .i64 x2, .int .i64 x3, .int .i64 x4] 3)).cell? ⟨w.heap.size, i, none⟩ = some (.int .i64 z) := by
  have : i = 0 ∨ i = 1 ∨ i = 2 ∨ i = 3 ∨ i = 4 := by omega
  rcases this with rfl | rfl | rfl | rfl | rfl
  · exact ⟨x0, by simp⟩
  · exact ⟨x1, by simp⟩
  · exact ⟨x2, by simp⟩
  · exact ⟨x3, by simp⟩
  · exact ⟨x4, by simp⟩

set_option maxHeartbeats 2000000 in
theorem drawPercent_any (a : Option Addr) (len cap : Nat) (w : World) (hl : len ≤ 1048576) (h : RowB w a len) :
    Calls Tryd.prog 25 #[.slice a len cap] w fun e w' => ∃ u v : Int, e = .returned (.tuple #[.int .i64 u, .int .i64 v]) ∧ Below w.heap.size w w' := by
  have P := pick_any w.heap.size len cap 0 a 20000 _ (by omega) (cur_new w a len cap hl h) (by omega) (by omega)
  clear h
  go_enter Tryd.func25, Tryd.ntmps25
  go_wp2_with fail
  refine P.mono ?_
  rintro e w1 ⟨x, rfl, x0, x1, hC1, hg1⟩
  clear P
  go_wp2_with fail
  refine (one_any w.heap.size len cap (0 + 2) a 12 _ (by omega) hC1 (by omega) (by omega)).mono ?_
  rintro e w2 ⟨o, rfl, hC2, hg2⟩
  have hg := grown_trans hg1 hg2
  clear hg1 hg2 hC1
  cases o with
  | false =>
    go_wp2_with fail
    refine (length_any w.heap.size len cap (0 + 2 + 2) a _ (by omega) hC2).mono ?_
    rintro e w3 ⟨v, rfl, hC3, hg3⟩
    go_wp2
    go_ret2
    exact ⟨_, _, rfl, below_new (grown_trans hg hg3)⟩
  | true =>
    have hlt := hC2.lt
    have hbl := (Below.refl w2.heap.size w2).alloc (Nat.le_refl _) (.cells #[.int .i64 100000, .int .i64 (-100000), .int .i64 100001, .int .i64 (-100001), .int .i64 10000] 3)
    have AM := among_any w.heap.size len cap (0 + 2 + 2) w2.heap.size 5 5 a (w2.alloc (.cells #[.int .i64 100000, .int .i64 (-100000), .int .i64 100001, .int .i64 (-100001), .int .i64 10000] 3)) (by omega) (hC2.grown hbl) (by omega) (by omega) (by omega) (five_draw w2 _ _ _ _ _)
    clear hC2
    go_wp2_with fail
    refine AM.mono ?_
    rintro e w3 ⟨v, rfl, hC3, hg3⟩
    have hgs := grown_trans hg (grown_trans (grown_of_below w.heap.size hbl) hg3)
    clear hg hg3 AM
    go_wp2_with fail
    refine (length_any w.heap.size len cap (0 + 2 + 2 + 2) a _ (by omega) hC3).mono ?_
    rintro e w4 ⟨u, rfl, hC4, hg4⟩
    go_wp2
    go_ret2
    exact ⟨_, _, rfl, below_new (grown_trans hgs hg4)⟩
end Go.Proofs.YtijondjiehoafaaDoor
