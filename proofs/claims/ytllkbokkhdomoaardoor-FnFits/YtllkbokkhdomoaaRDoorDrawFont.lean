/-
  Contracts of the drawn font and of a drawn text: the cursor's font, of and plain answer some font and some short text, turn nothing but their cursor, and leave it good.
-/
import Derived.Test.YtllkbokkhdomoaaRDoorDraw1
namespace Go.Proofs.YtllkbokkhdomoaaRDoor
open Go.ChangeShapes Go.WideShapes Go.ChangeAt Go.RowKit
set_option linter.unusedVariables false

theorem gcell {w w' : World} {b k : Nat} (hg : w.grownBy w' (some b)) (hk : k < w.heap.size) (hne : k ≠ b) : (∀ o, w'.cell? ⟨k, o, none⟩ = w.cell? ⟨k, o, none⟩) ∧ ∀ o, w'.frozen? ⟨k, o, none⟩ = w.frozen? ⟨k, o, none⟩ := by
  have hb := hg.block k hk (by simpa using hne)
  exact ⟨fun o => World.cell?_of_block (a := ⟨k, o, none⟩) hb, fun o => World.frozen?_of_block (a := ⟨k, o, none⟩) hb⟩
theorem grown_new {w w' : World} {b : Nat} {p : Addr} (hg : w.grownBy w' (some b)) (hp : w.heap.size ≤ p.block) (v : Value) : w.grownBy (w'.setCell p v) (some b) :=
  ⟨hg.os, hg.tape, hg.output, Nat.le_trans hg.size (by simp), fun k hk hne => (Below.heap_setCell w' p v k (by omega)).trans (hg.block k hk hne)⟩
theorem grown_alloc {w w' : World} {b : Nat} (hg : w.grownBy w' (some b)) (o : Obj) : w.grownBy (w'.alloc o) (some b) :=
  grown_trans hg (grown_of_below b ((Below.refl w'.heap.size w').alloc (Nat.le_refl _) o))
/-- A cursor that is good stays so where the blocks that were there at the beginning have not turned. -/
theorem CurOk.same {w0 w1 w2 : World} {b : Nat} {a : Option Addr} {len cap m m0 : Nat} (h0 : CurOk w0 b a len cap m0) (h1 : CurOk w1 b a len cap m) (hbl : ∀ k, k < w0.heap.size → w2.heap[k]? = w1.heap[k]?) : CurOk w2 b a len cap m := by
  have hlt := h0.lt
  obtain ⟨_, _, hB0⟩ := h0
  obtain ⟨hl, ⟨k, seed, hk, s0, s1, c0, c1, c2, f0, f1, f2⟩, hB⟩ := h1
  have hb := hbl b hlt
  refine ⟨hl, ⟨k, seed, hk, s0, s1, (World.cell?_of_block (a := ⟨b, 0, none⟩) hb).trans c0, (World.cell?_of_block (a := ⟨b, 1, none⟩) hb).trans c1, (World.cell?_of_block (a := ⟨b, 2, none⟩) hb).trans c2, (World.frozen?_of_block (a := ⟨b, 0, none⟩) hb).trans f0, (World.frozen?_of_block (a := ⟨b, 1, none⟩) hb).trans f1, (World.frozen?_of_block (a := ⟨b, 2, none⟩) hb).trans f2⟩, ?_⟩
  rcases hB with hB | ⟨cb, off, ha, hnb, hc⟩
  · exact .inl hB
  · by_cases hp : len = 0
    · exact .inl hp
    · rcases hB0 with hB0 | ⟨cb0, off0, ha0, _, hc0⟩
      · exact absurd hB0 hp
      · rw [ha] at ha0
        cases ha0
        have hcb : cb < w0.heap.size := by obtain ⟨z, _, _, hz⟩ := hc0 0 (by omega); exact cell_lt' hz
        exact .inr ⟨cb, off, ha, hnb, fun i hi => by
          obtain ⟨z, z0, z1, hz⟩ := hc i hi
          exact ⟨z, z0, z1, (World.cell?_of_block (a := ⟨cb, off + i, none⟩) (hbl cb hcb)).trans hz⟩⟩

/-- A font lies in block k, and may be written. -/
def FontAt (w : World) (k : Nat) (fa fd fn fu fb : Int) : Prop :=
  k < w.heap.size ∧ w.cell? ⟨k, 0, none⟩ = some (.int .i64 fa) ∧ w.cell? ⟨k, 1, none⟩ = some (.int .i64 fd) ∧ w.cell? ⟨k, 2, none⟩ = some (.int .i64 fn) ∧ w.cell? ⟨k, 3, none⟩ = some (.int .i64 fu) ∧ w.cell? ⟨k, 4, none⟩ = some (.int .i64 fb) ∧
    w.frozen? ⟨k, 0, none⟩ = false ∧ w.frozen? ⟨k, 1, none⟩ = false ∧ w.frozen? ⟨k, 2, none⟩ = false ∧ w.frozen? ⟨k, 3, none⟩ = false ∧ w.frozen? ⟨k, 4, none⟩ = false
theorem fontAt_new (w : World) (fa fd fn fu fb : Int) : FontAt (w.alloc (.cells #[.int .i64 fa, .int .i64 fd, .int .i64 fn, .int .i64 fu, .int .i64 fb] 24)) w.heap.size fa fd fn fu fb :=
  ⟨by simp, by simp, by simp, by simp, by simp, by simp, by simp, by simp, by simp, by simp, by simp⟩
theorem FontAt.same {w w' : World} {k : Nat} {fa fd fn fu fb : Int} (h : FontAt w k fa fd fn fu fb) (hb : w'.heap[k]? = w.heap[k]?) (hs : w.heap.size ≤ w'.heap.size) : FontAt w' k fa fd fn fu fb := by
  obtain ⟨h0, c0, c1, c2, c3, c4, f0, f1, f2, f3, f4⟩ := h
  exact ⟨Nat.lt_of_lt_of_le h0 hs, (World.cell?_of_block (a := ⟨k, 0, none⟩) hb).trans c0, (World.cell?_of_block (a := ⟨k, 1, none⟩) hb).trans c1, (World.cell?_of_block (a := ⟨k, 2, none⟩) hb).trans c2, (World.cell?_of_block (a := ⟨k, 3, none⟩) hb).trans c3, (World.cell?_of_block (a := ⟨k, 4, none⟩) hb).trans c4,
    (World.frozen?_of_block (a := ⟨k, 0, none⟩) hb).trans f0, (World.frozen?_of_block (a := ⟨k, 1, none⟩) hb).trans f1, (World.frozen?_of_block (a := ⟨k, 2, none⟩) hb).trans f2, (World.frozen?_of_block (a := ⟨k, 3, none⟩) hb).trans f3, (World.frozen?_of_block (a := ⟨k, 4, none⟩) hb).trans f4⟩
theorem FontAt.grown {w w' : World} {b k : Nat} {fa fd fn fu fb : Int} (h : FontAt w k fa fd fn fu fb) (hg : w.grownBy w' (some b)) (hne : k ≠ b) : FontAt w' k fa fd fn fu fb :=
  h.same (hg.block k h.1 (by simpa using hne)) hg.size
theorem FontAt.below {w w' : World} {k : Nat} {fa fd fn fu fb : Int} (h : FontAt w k fa fd fn fu fb) (hb : Below w.heap.size w w') : FontAt w' k fa fd fn fu fb :=
  h.same (hb.block k h.1) hb.size

set_option maxHeartbeats 4000000 in
theorem font_any (b len cap m : Nat) (a : Option Addr) (w : World) (hm : m ≤ 1000000000000) (hC : CurOk w b a len cap m) :
    Calls Tryd.prog 25 #[.pointer (some ⟨b, 0, none⟩)] w fun e w' => ∃ fa fd fn fu fb : Int, e = .returned (.agg #[.int .i64 fa, .int .i64 fd, .int .i64 fn, .int .i64 fu, .int .i64 fb]) ∧ CurOk w' b a len cap (m + 20) ∧ w.grownBy w' (some b) := by
  have hlt := hC.lt
  have hC0 := hC.grown ((Below.refl w.heap.size w).alloc (Nat.le_refl _) (.cells #[.int .i64 0, .int .i64 0, .int .i64 0, .int .i64 0, .int .i64 0] 24))
  go_enter Tryd.func25, Tryd.ntmps25
  go_wp2_with fail
  refine (pick_any b len cap m a 20 _ (by omega) hC0 (by omega) (by omega)).mono ?_
  rintro e w1 ⟨x1, rfl, x10, x11, hC1, hg1⟩
  go_wp2_with fail
  refine (pick_any b len cap (m + 2) a 10 _ (by omega) hC1 (by omega) (by omega)).mono ?_
  rintro e w2 ⟨x2, rfl, x20, x21, hC2, hg2⟩
  have G2 := grown_trans hg1 hg2
  clear hC1 hg1 hg2
  go_wp2_with fail
  refine (pick_any b len cap (m + 2 + 2) a 4 _ (by omega) hC2 (by omega) (by omega)).mono ?_
  rintro e w3 ⟨x3, rfl, x30, x31, hC3, hg3⟩
  have G3 := grown_trans G2 hg3
  clear hC2 G2 hg3
  go_wp2_with fail
  refine (pick_any b len cap (m + 2 + 2 + 2) a 5 _ (by omega) hC3 (by omega) (by omega)).mono ?_
  rintro e w4 ⟨x4, rfl, x40, x41, hC4, hg4⟩
  have G4 := grown_trans G3 hg4
  clear hC3 G3 hg4
  go_wp2_with fail
  refine (pick_any b len cap (m + 2 + 2 + 2 + 2) a 6 _ (by omega) hC4 (by omega) (by omega)).mono ?_
  rintro e w5 ⟨x5, rfl, x50, x51, hC5, hg5⟩
  have G5 := grown_trans G4 hg5
  clear hC4 G4 hg5 hC0
  have R5 := (fontAt_new w 0 0 0 0 0).grown G5 (by omega)
  have sz := R5.1
  go_wp2_with fail
  refine (pick_any b len cap (m + 2 + 2 + 2 + 2 + 2) a 30 _ (by omega) (hC5.grown ((Below.refl _ _).alloc (Nat.le_refl _) _)) (by omega) (by omega)).mono ?_
  rintro e w6 ⟨x6, rfl, x60, x61, hC6, hg6⟩
  have L6 := (fontAt_new w5 (32 * (10 + x1)) (32 * x2) (64 * (1 + x3)) (64 * (4 + x4)) (64 * (8 + x5))).grown hg6 (by omega)
  have R6 := (R5.below ((Below.refl _ _).alloc (Nat.le_refl _) _)).grown hg6 (by omega)
  have G6 := grown_trans (grown_alloc G5 _) hg6
  have sz6 := L6.1
  have n1 : ¬ w.heap.size = w5.heap.size := by omega
  have n2 : ¬ w5.heap.size = w.heap.size := by omega
  clear hC5 G5 hg6 R5
  have hx : x6 = 0 ∨ x6 = 1 ∨ 2 ≤ x6 := by omega
  rcases hx with rfl | rfl | hx
  · have hbl := (Below.refl w6.heap.size w6).alloc (Nat.le_refl _) (.cells #[.int .i64 0, .int .i64 (-1), .int .i64 6400, .int .i64 6401] 3)
    have AM := among_any b len cap (m + 2 + 2 + 2 + 2 + 2 + 2) w6.heap.size 4 4 a (w6.alloc (.cells #[.int .i64 0, .int .i64 (-1), .int .i64 6400, .int .i64 6401] 3)) (by omega) (hC6.grown hbl) (by omega) (by omega) (by omega) (four_cells w6 _ _ _ _)
    go_wp2_with fail
    refine AM.mono ?_
    rintro e w7 ⟨v, rfl, hC7, hg7⟩
    have G7 := grown_trans (grown_alloc G6 _) hg7
    obtain ⟨r0, r1, r2, r3, r4, r5, r6, r7, r8, r9, r10⟩ := (R6.below hbl).grown hg7 (by omega)
    obtain ⟨l0, l1, l2, l3, l4, l5, l6, l7, l8, l9, l10⟩ := (L6.below hbl).grown hg7 (by omega)
    clear G6 hg7 AM hC6 hbl R6 L6
    go_wp2
    refine bodyPost_ret (v := .agg #[.int .i64 (32 * (10 + x1)), .int .i64 (32 * x2), .int .i64 (v), .int .i64 (64 * (4 + x4)), .int .i64 (64 * (8 + x5))]) (by simp [results, Tryd.results25, go_sem, *]) rfl ⟨_, _, _, _, _, rfl, hC.same (hC7.more (by omega)) (fun k hk => ?_), ?_⟩
    · repeat (refine (Below.heap_setCell _ _ _ k (by simp; omega)).trans ?_)
      rfl
    · repeat (refine grown_new ?_ (by first | (simp; done) | (simp; omega)) _)
      exact grown_trans (grown_of_below b ((Below.refl w.heap.size w).alloc (Nat.le_refl _) _)) G7
  · have hbl := (Below.refl w6.heap.size w6).alloc (Nat.le_refl _) (.cells #[.int .i64 0, .int .i64 (-1), .int .i64 6400, .int .i64 6401] 3)
    have AM := among_any b len cap (m + 2 + 2 + 2 + 2 + 2 + 2) w6.heap.size 4 4 a (w6.alloc (.cells #[.int .i64 0, .int .i64 (-1), .int .i64 6400, .int .i64 6401] 3)) (by omega) (hC6.grown hbl) (by omega) (by omega) (by omega) (four_cells w6 _ _ _ _)
    go_wp2_with fail
    refine AM.mono ?_
    rintro e w7 ⟨v, rfl, hC7, hg7⟩
    have G7 := grown_trans (grown_alloc G6 _) hg7
    obtain ⟨r0, r1, r2, r3, r4, r5, r6, r7, r8, r9, r10⟩ := (R6.below hbl).grown hg7 (by omega)
    obtain ⟨l0, l1, l2, l3, l4, l5, l6, l7, l8, l9, l10⟩ := (L6.below hbl).grown hg7 (by omega)
    clear G6 hg7 AM hC6 hbl R6 L6
    go_wp2
    refine bodyPost_ret (v := .agg #[.int .i64 (v), .int .i64 (32 * x2), .int .i64 (64 * (1 + x3)), .int .i64 (64 * (4 + x4)), .int .i64 (64 * (8 + x5))]) (by simp [results, Tryd.results25, go_sem, *]) rfl ⟨_, _, _, _, _, rfl, hC.same (hC7.more (by omega)) (fun k hk => ?_), ?_⟩
    · repeat (refine (Below.heap_setCell _ _ _ k (by simp; omega)).trans ?_)
      rfl
    · repeat (refine grown_new ?_ (by first | (simp; done) | (simp; omega)) _)
      exact grown_trans (grown_of_below b ((Below.refl w.heap.size w).alloc (Nat.le_refl _) _)) G7
  · obtain ⟨r0, r1, r2, r3, r4, r5, r6, r7, r8, r9, r10⟩ := R6
    obtain ⟨l0, l1, l2, l3, l4, l5, l6, l7, l8, l9, l10⟩ := L6
    go_wp2
    refine bodyPost_ret (v := .agg #[.int .i64 (32 * (10 + x1)), .int .i64 (32 * x2), .int .i64 (64 * (1 + x3)), .int .i64 (64 * (4 + x4)), .int .i64 (64 * (8 + x5))]) (by simp [results, Tryd.results25, go_sem, *]) rfl ⟨_, _, _, _, _, rfl, hC.same (hC6.more (by omega)) (fun k hk => ?_), ?_⟩
    · repeat (refine (Below.heap_setCell _ _ _ k (by simp; omega)).trans ?_)
      rfl
    · repeat (refine grown_new ?_ (by first | (simp; done) | (simp; omega)) _)
      exact grown_trans (grown_of_below b ((Below.refl w.heap.size w).alloc (Nat.le_refl _) _)) G6
end Go.Proofs.YtllkbokkhdomoaaRDoor
