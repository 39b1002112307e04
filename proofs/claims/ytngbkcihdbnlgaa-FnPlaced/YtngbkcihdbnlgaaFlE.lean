/-
  What DrawPlaceFloat draws.
-/
import Derived.Test.YtngbkcihdbnlgaaFlD
import Derived.Test.YtngbkcihdbnlgaaDraw1
namespace Go.Proofs.Ytngbkcihdbnlgaa
open Go.ChangeShapes Go.WideShapes Go.ChangeAt Go.RowKit
set_option linter.unusedVariables false

theorem OwnA.lower {w : World} {B B' : Nat} {v : Value} {l : List Asd} (h : OwnA w B v l) (hB : B' ≤ B) : OwnA w B' v l := by
  refine ⟨h.1, ?_⟩
  rcases h.2 with hn | ⟨g, cap, cur, rfl, hbg, rest⟩
  · exact .inl hn
  · exact .inr ⟨g, cap, cur, rfl, by omega, rest⟩
theorem two_ints (w : World) (x0 x1 : Int) (i : Nat) (hi : i < 2) : ∃ z : Int, (w.alloc (.cells #[.int .i64 x0, .int .i64 x1] 3)).cell? ⟨w.heap.size, i, none⟩ = some (.int .i64 z) := by
  have : i = 0 ∨ i = 1 := by omega
  rcases this with rfl | rfl
  · exact ⟨x0, by simp⟩
  · exact ⟨x1, by simp⟩
set_option maxHeartbeats 4000000 in
theorem yOf_any (b len cap m : Nat) (a : Option Addr) (w : World) (hm : m ≤ 10000000000000) (hC : CurOk w b a len cap m) :
    Calls Try.prog 29 #[.pointer (some ⟨b, 0, none⟩)] w fun e w' => ∃ v : Int, e = .returned (.int .i64 v) ∧ CurOk w' b a len cap (m + 10) ∧ w.grownBy w' (some b) := by
  have HBB : Hid (b < w.heap.size) := hC.lt
  go_enter Try.func29, Try.ntmps29
  go_wp2_with fail
  refine (one_any b len cap m a 20 _ (by omega) hC (by omega) (by omega)).mono ?_
  rintro e w1 ⟨q, rfl, c1, g1⟩
  clear hC
  cases q
  · go_wp2_with fail
    refine (pick_any b len cap _ a 40 _ (by omega) c1 (by omega) (by omega)).mono ?_
    rintro e w2 ⟨v, rfl, v0, v1, c2, g2⟩
    have G2 := grown_trans g1 g2
    clear c1 g1 g2
    go_wp2
    go_ret
    exact ⟨_, rfl, c2.more (by omega), G2⟩
  · have hne : w1.heap.size ≠ b := by have := HBB.out; have := g1.size; omega
    go_wp2_with fail
    refine (among_any b len cap _ w1.heap.size 4 4 a _ (by omega) (c1.grown (below_one rfl)) (by omega) (by omega) hne (fun i hi => four_cells _ _ _ _ _ i hi)).mono ?_
    rintro e w2 ⟨v, rfl, c2, g2⟩
    have G2 := grown_trans (grown_trans g1 (grown_of_below b (below_one rfl))) g2
    clear c1 g1 g2
    go_wp2
    go_ret
    exact ⟨_, rfl, c2.more (by omega), G2⟩
/-- What is drawn for PlaceFloat. -/
structure DrawnP (w w' : World) (v : Value) (l : List Asd) (wide left right : Int) : Prop where
  own : OwnA w' w.heap.size v l
  dl : DrawnL l
  w0 : 0 ≤ wide
  w1 : wide ≤ 3200
  l0 : 0 ≤ left
  l1 : left ≤ 128
  r0 : 640 ≤ right
  r1 : right ≤ 2560
  bel : Below w.heap.size w w'
set_option maxHeartbeats 8000000 in
theorem drawPlace_any (a : Option Addr) (len cap : Nat) (w : World) (hl : len ≤ 1048576) (h : RowB w a len) :
    Calls Try.prog 9 #[.slice a len cap] w fun e w' => ∃ v l side wide high y left right, e = .returned (.tuple #[v, .int .i64 side, .int .i64 wide, .int .i64 high, .int .i64 y, .int .i64 left, .int .i64 right]) ∧ DrawnP w w' v l wide left right := by
  have C0 := cur_new w a len cap hl h
  have HC0 : Hid (CurOk (w.alloc (.cells #[.slice a len cap, .int .i64 0, .int .u64 0] 52)) w.heap.size a len cap 0) := C0
  clear C0 h
  go_enter Try.func9, Try.ntmps9
  go_wp2_with fail
  refine (pick_any w.heap.size len cap 0 a 2 _ (by omega) HC0.out (by omega) (by omega)).mono ?_
  rintro e w1 ⟨s1, rfl, s10, s11, c1, g1⟩
  clear HC0
  go_wp2_with fail
  refine (one_any w.heap.size len cap _ a 30 _ (by omega) c1 (by omega) (by omega)).mono ?_
  rintro e w2 ⟨q, rfl, c2, g2⟩
  have G2 := grown_trans g1 g2
  clear c1 g1 g2
  cases q
  · go_wp2_with fail
    refine (floats_any w.heap.size len cap _ a _ (by omega) c2).mono ?_
    rintro e w4 ⟨v4, l4, rfl, o4, d4, c4, g4⟩
    have G4 := grown_trans G2 g4
    have hbb : w.heap.size < w2.heap.size := Nat.lt_of_lt_of_le (by simp) G2.size
    have HD : Hid (DrawnL l4) := d4
    clear g4 d4 c2
    go_wp2_with fail
    refine (pick_any w.heap.size len cap _ a 50 _ (by omega) c4 (by omega) (by omega)).mono ?_
    rintro e w5 ⟨s5, rfl, s50, s51, c5, g5⟩
    have o5 := o4.turn g5 hbb
    have G5 := grown_trans G4 g5
    clear c4 o4 G4 g5
    go_wp2_with fail
    refine (pick_any w.heap.size len cap _ a 9 _ (by omega) c5 (by omega) (by omega)).mono ?_
    rintro e w6 ⟨s6, rfl, s60, s61, c6, g6⟩
    have o6 := o5.turn g6 hbb
    have G6 := grown_trans G5 g6
    clear c5 o5 G5 g6
    go_wp2_with fail
    refine (yOf_any w.heap.size len cap _ a _ (by omega) c6).mono ?_
    rintro e w7 ⟨s7, rfl, c7, g7⟩
    have o7 := o6.turn g7 hbb
    have G7 := grown_trans G6 g7
    clear c6 o6 G6 g7
    go_wp2_with fail
    refine (pick_any w.heap.size len cap _ a 3 _ (by omega) c7 (by omega) (by omega)).mono ?_
    rintro e w8 ⟨s8, rfl, s80, s81, c8, g8⟩
    have o8 := o7.turn g8 hbb
    have G8 := grown_trans G7 g8
    clear c7 o7 G7 g8
    go_wp2_with fail
    refine (pick_any w.heap.size len cap _ a 31 _ (by omega) c8 (by omega) (by omega)).mono ?_
    rintro e w9 ⟨s9, rfl, s90, s91, c9, g9⟩
    have o9 := o8.turn g9 hbb
    have G9 := grown_trans G8 g9
    have B9 := below_new G9
    have O9 := o9.lower (Nat.le_of_lt hbb)
    clear c8 o8 G8 g9 c9 o9 G9
    go_wp2
    exact bodyPost_ret (v := .tuple #[v4, .int .i64 (1 + s1), .int .i64 (64 * s5), .int .i64 (64 * s6), .int .i64 s7, .int .i64 (64 * s8), .int .i64 (64 * (10 + s9))]) (by simp [results, Try.results9, go_sem]) rfl ⟨_, l4, _, _, _, _, _, _, rfl, O9, HD.out, by omega, by omega, by omega, by omega, by omega, by omega, B9⟩
  · have hne : w2.heap.size ≠ w.heap.size := by have := G2.size; simp at this; omega
    go_wp2_with fail
    refine (among_any w.heap.size len cap _ w2.heap.size 2 2 a _ (by omega) (c2.grown (below_one rfl)) (by omega) (by omega) hne (fun i hi => two_ints _ _ _ i hi)).mono ?_
    rintro e w3 ⟨s3, rfl, c3, g3⟩
    have G3 := grown_trans (grown_trans G2 (grown_of_below _ (below_one rfl))) g3
    clear c2 G2 g3
    go_wp2_with fail
    refine (floats_any w.heap.size len cap _ a _ (by omega) c3).mono ?_
    rintro e w4 ⟨v4, l4, rfl, o4, d4, c4, g4⟩
    have G4 := grown_trans G3 g4
    have hbb : w.heap.size < w3.heap.size := Nat.lt_of_lt_of_le (by simp) G3.size
    have HD : Hid (DrawnL l4) := d4
    clear g4 d4 c3
    go_wp2_with fail
    refine (pick_any w.heap.size len cap _ a 50 _ (by omega) c4 (by omega) (by omega)).mono ?_
    rintro e w5 ⟨s5, rfl, s50, s51, c5, g5⟩
    have o5 := o4.turn g5 hbb
    have G5 := grown_trans G4 g5
    clear c4 o4 G4 g5
    go_wp2_with fail
    refine (pick_any w.heap.size len cap _ a 9 _ (by omega) c5 (by omega) (by omega)).mono ?_
    rintro e w6 ⟨s6, rfl, s60, s61, c6, g6⟩
    have o6 := o5.turn g6 hbb
    have G6 := grown_trans G5 g6
    clear c5 o5 G5 g6
    go_wp2_with fail
    refine (yOf_any w.heap.size len cap _ a _ (by omega) c6).mono ?_
    rintro e w7 ⟨s7, rfl, c7, g7⟩
    have o7 := o6.turn g7 hbb
    have G7 := grown_trans G6 g7
    clear c6 o6 G6 g7
    go_wp2_with fail
    refine (pick_any w.heap.size len cap _ a 3 _ (by omega) c7 (by omega) (by omega)).mono ?_
    rintro e w8 ⟨s8, rfl, s80, s81, c8, g8⟩
    have o8 := o7.turn g8 hbb
    have G8 := grown_trans G7 g8
    clear c7 o7 G7 g8
    go_wp2_with fail
    refine (pick_any w.heap.size len cap _ a 31 _ (by omega) c8 (by omega) (by omega)).mono ?_
    rintro e w9 ⟨s9, rfl, s90, s91, c9, g9⟩
    have o9 := o8.turn g9 hbb
    have G9 := grown_trans G8 g9
    have B9 := below_new G9
    have O9 := o9.lower (Nat.le_of_lt hbb)
    clear c8 o8 G8 g9 c9 o9 G9
    go_wp2
    exact bodyPost_ret (v := .tuple #[v4, .int .i64 (s3), .int .i64 (64 * s5), .int .i64 (64 * s6), .int .i64 s7, .int .i64 (64 * s8), .int .i64 (64 * (10 + s9))]) (by simp [results, Try.results9, go_sem]) rfl ⟨_, l4, _, _, _, _, _, _, rfl, O9, HD.out, by omega, by omega, by omega, by omega, by omega, by omega, B9⟩
end Go.Proofs.Ytngbkcihdbnlgaa
