/-
  Contract of DrawLineParts: some font and some height, and all older memory left alone, for every byte slice of at most 1048576 bytes.
-/
import Derived.Test.YtllkbokkhdomoaaRDoorDrawText
namespace Go.Proofs.YtllkbokkhdomoaaRDoor
open Go.ChangeShapes Go.WideShapes Go.ChangeAt Go.RowKit
set_option linter.unusedVariables false

/-- What turned the cursor alone, behind two new blocks, turned nothing older. -/
theorem below_two {w w' : World} {o o' : Obj} (h : ((w.alloc o).alloc o').grownBy w' (some (w.heap.size + 1))) : Below w.heap.size w w' := by
  have h' : ((w.alloc o).alloc o').grownBy w' (some (w.alloc o).heap.size) := by simpa using h
  exact ((Below.refl w.heap.size w).alloc (Nat.le_refl _) o).trans ((below_new h').mono (by simp))
/-- A new cursor behind a new block. -/
theorem cur_two (w : World) (o : Obj) (a : Option Addr) (len cap : Nat) (hl : len ≤ 1048576) (h : RowB w a len) :
    CurOk ((w.alloc o).alloc (.cells #[.slice a len cap, .int .i64 0, .int .u64 0] 44)) (w.heap.size + 1) a len cap 0 := by
  have := cur_new (w.alloc o) a len cap hl (h.below ((Below.refl w.heap.size w).alloc (Nat.le_refl _) o))
  simpa using this

set_option maxHeartbeats 4000000 in
theorem drawLine_any (a : Option Addr) (len cap : Nat) (w : World) (hl : len ≤ 1048576) (h : RowB w a len) :
    Calls Tryd.prog 10 #[.slice a len cap] w fun e w' => ∃ fa fd fn fu fb t : Int, e = .returned (.tuple #[.agg #[.int .i64 fa, .int .i64 fd, .int .i64 fn, .int .i64 fu, .int .i64 fb], .int .i64 t]) ∧ Below w.heap.size w w' := by
  have hC0 := cur_two w (.cells #[.int .i64 0, .int .i64 0, .int .i64 0, .int .i64 0, .int .i64 0] 24) a len cap hl h
  have R0 := (fontAt_new w 0 0 0 0 0).below ((Below.refl _ _).alloc (Nat.le_refl _) (.cells #[.slice a len cap, .int .i64 0, .int .u64 0] 44))
  clear h
  go_enter Tryd.func10, Tryd.ntmps10
  go_wp2_with fail
  refine (pick_any (w.heap.size + 1) len cap 0 a 60 _ (by omega) hC0 (by omega) (by omega)).mono ?_
  rintro e w1 ⟨x, rfl, x0, x1, hC1, hg1⟩
  go_wp2_with fail
  refine (one_any (w.heap.size + 1) len cap (0 + 2) a 12 _ (by omega) hC1 (by omega) (by omega)).mono ?_
  rintro e w2 ⟨o, rfl, hC2, hg2⟩
  have G2 := grown_trans hg1 hg2
  have R2 := R0.grown G2 (by omega)
  have hlt2 := hC2.lt
  clear hC1 hg1 hg2 R0 hC0
  cases o with
  | false =>
    go_wp2_with fail
    refine (font_any (w.heap.size + 1) len cap (0 + 2 + 2) a _ (by omega) hC2).mono ?_
    rintro e w3 ⟨fa, fd, fn, fu, fb, rfl, hC3, hg3⟩
    have hb3 := below_two (grown_trans G2 hg3)
    obtain ⟨r0, r1, r2, r3, r4, r5, r6, r7, r8, r9, r10⟩ := R2.grown hg3 (by omega)
    clear hC3 hC2 G2 hg3 R2
    go_wp2
    refine bodyPost_ret (v := .tuple #[.agg #[.int .i64 fa, .int .i64 fd, .int .i64 fn, .int .i64 fu, .int .i64 fb], .int .i64 (x * 32)]) (by simp [results, Tryd.results10, go_sem, *]) rfl ⟨_, _, _, _, _, _, rfl, ?_⟩
    repeat (refine Below.setCell ?_ (by first | (simp; done) | (simp; omega)) _)
    exact hb3
  | true =>
    have hbl := (Below.refl w2.heap.size w2).alloc (Nat.le_refl _) (.cells #[.int .i64 (-1), .int .i64 0, .int .i64 64000, .int .i64 64001] 3)
    have AM := among_any (w.heap.size + 1) len cap (0 + 2 + 2) w2.heap.size 4 4 a (w2.alloc (.cells #[.int .i64 (-1), .int .i64 0, .int .i64 64000, .int .i64 64001] 3)) (by omega) (hC2.grown hbl) (by omega) (by omega) (by omega) (four_cells w2 _ _ _ _)
    go_wp2_with fail
    refine AM.mono ?_
    rintro e w3 ⟨v, rfl, hC3, hg3⟩
    have G3 := grown_trans (grown_alloc G2 _) hg3
    have R3 := (R2.below hbl).grown hg3 (by omega)
    clear hC2 G2 hg3 R2 AM hbl
    go_wp2_with fail
    refine (font_any (w.heap.size + 1) len cap (0 + 2 + 2 + 2) a _ (by omega) hC3).mono ?_
    rintro e w4 ⟨fa, fd, fn, fu, fb, rfl, hC4, hg4⟩
    have hb4 := below_two (grown_trans G3 hg4)
    obtain ⟨r0, r1, r2, r3, r4, r5, r6, r7, r8, r9, r10⟩ := R3.grown hg4 (by omega)
    clear hC4 hC3 G3 hg4 R3
    go_wp2
    refine bodyPost_ret (v := .tuple #[.agg #[.int .i64 fa, .int .i64 fd, .int .i64 fn, .int .i64 fu, .int .i64 fb], .int .i64 v]) (by simp [results, Tryd.results10, go_sem, *]) rfl ⟨_, _, _, _, _, _, rfl, ?_⟩
    repeat (refine Below.setCell ?_ (by first | (simp; done) | (simp; omega)) _)
    exact hb4
end Go.Proofs.YtllkbokkhdomoaaRDoor
