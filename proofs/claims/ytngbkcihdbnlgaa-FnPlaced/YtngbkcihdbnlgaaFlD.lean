/-
  Floats that are drawn: they are few, and those that are good are not far.
-/
import Derived.Test.YtngbkcihdbnlgaaAfJ
import Derived.Test.YtngbkcihdbnlgaaCur3
namespace Go.Proofs.Ytngbkcihdbnlgaa
open Go.ChangeShapes Go.WideShapes Go.ChangeAt Go.RowKit
set_option linter.unusedVariables false

theorem cur_own {w wr w3 : World} {b len cap m0 m : Nat} {a : Option Addr} {row : Option Nat} (hC0 : CurOk w b a len cap m0) (hCr : CurOk wr b a len cap m) (hg : w.grownBy wr (some b)) (h3 : wr.grownBy w3 row) (hrow : ∀ k, row = some k → w.heap.size ≤ k) : CurOk w3 b a len cap m ∧ w.grownBy w3 (some b) := by
  have hb := hC0.lt
  have g3 : w.grownBy w3 (some b) := ⟨h3.os.trans hg.os, h3.tape.trans hg.tape, h3.output.trans hg.output, Nat.le_trans hg.size h3.size, fun k hk hne => (h3.block k (Nat.lt_of_lt_of_le hk hg.size) (fun e => by have := hrow k e.symm; omega)).trans (hg.block k hk hne)⟩
  refine ⟨⟨hCr.1, ?_, hC0.2.2.grown g3⟩, g3⟩
  obtain ⟨_, ⟨k, seed, hk, s0, s1, h0, h1, h2, f0, f1, f2⟩, _⟩ := hCr
  have hbw : w3.heap[b]? = wr.heap[b]? := h3.block b (Nat.lt_of_lt_of_le hb hg.size) (fun e => by have := hrow b e.symm; omega)
  exact ⟨k, seed, hk, s0, s1, (World.cell?_of_block (a := ⟨b, 0, none⟩) hbw).trans h0, (World.cell?_of_block (a := ⟨b, 1, none⟩) hbw).trans h1, (World.cell?_of_block (a := ⟨b, 2, none⟩) hbw).trans h2, (World.frozen?_of_block (a := ⟨b, 0, none⟩) hbw).trans f0, (World.frozen?_of_block (a := ⟨b, 1, none⟩) hbw).trans f1, (World.frozen?_of_block (a := ⟨b, 2, none⟩) hbw).trans f2⟩
theorem OwnA.turn {w w' : World} {B b : Nat} {v : Value} {l : List Asd} (h : OwnA w B v l) (hg : w.grownBy w' (some b)) (hb : b < B) : OwnA w' B v l := by
  refine World.ownsRow.kept h hg ?_
  cases hv : v.ownBlock with
  | none => exact .inl rfl
  | some k => exact .inr (fun e => by have := h.base k hv; cases e; omega)
theorem alloc_grown (w : World) (o : Obj) : w.grownBy (w.alloc o) none := ⟨rfl, rfl, rfl, by simp, fun k hk _ => Below.heap_alloc w o k hk⟩
theorem Near.more {B B' : Int} {x : Asd} (h : Near B x) (hB : B ≤ B') : Near B' x := ⟨by have := h.lo; omega, by have := h.hi; omega, by have := h.bo; omega, by have := h.x1; omega⟩
/-- The floats so far. -/
structure FlAt (l : List Asd) (Y : Int) (i : Nat) : Prop where
  len : l.length ≤ i
  y0 : 0 ≤ Y
  y1 : Y ≤ 3000 * ((i : Int) + 1)
  near : ∀ x ∈ l, Near (3000 * ((i : Int) + 1)) x ∧ 0 ≤ x.h
theorem flAt_skip {l : List Asd} {Y Y' : Int} {i : Nat} (h : FlAt l Y i) (h0 : Y ≤ Y') (h1 : Y' ≤ Y + 320) : FlAt l Y' (i + 1) :=
  ⟨by have := h.len; omega, by have := h.y0; omega, by have := h.y1; omega, fun x hx => ⟨(h.near x hx).1.more (by omega), (h.near x hx).2⟩⟩
theorem flAt_put {l : List Asd} {Y Y' side wide high : Int} {i : Nat} (h : FlAt l Y i) (w0 : 0 ≤ wide) (w1 : wide ≤ 1900) (e0 : 0 ≤ high) (e1 : high ≤ 800) (h0 : Y ≤ Y') (h1 : Y' ≤ Y + 320) : FlAt (l ++ [putF l side wide high Y 0 2560]) Y' (i + 1) := by
  refine ⟨by have := h.len; simp; omega, by have := h.y0; omega, by have := h.y1; omega, fun x hx => ?_⟩
  rcases List.mem_append.1 hx with hx | hx
  · exact ⟨(h.near x hx).1.more (by omega), (h.near x hx).2⟩
  · rw [List.mem_singleton] at hx
    subst hx
    have hy1 := h.y1
    have a := putF_near (side := side) (wide := wide) (high := high) (y := Y) (left := 0) (right := 2560) (B := 3000 * ((i : Int) + 1)) (D := 1900) h.near (by omega) w0 w1 (by omega) (by omega) (by omega) (by omega)
    have b := putF_top (side := side) (wide := wide) (high := high) (left := 0) (right := 2560) h.near hy1
    have ew : (putF l side wide high Y 0 2560).w = wide := rfl
    have eh : (putF l side wide high Y 0 2560).h = high := rfl
    exact ⟨⟨by omega, by rw [ew]; omega, by rw [eh]; omega, by omega⟩, by rw [eh]; exact e0⟩
theorem three_ints (w : World) (x0 x1 x2 : Int) (i : Nat) (hi : i < 3) : ∃ z : Int, (w.alloc (.cells #[.int .i64 x0, .int .i64 x1, .int .i64 x2] 3)).cell? ⟨w.heap.size, i, none⟩ = some (.int .i64 z) := by
  have : i = 0 ∨ i = 1 ∨ i = 2 := by omega
  rcases this with rfl | rfl | rfl
  · exact ⟨x0, by simp⟩
  · exact ⟨x1, by simp⟩
  · exact ⟨x2, by simp⟩
theorem OwnA.handed {w : World} {B : Nat} {v : Value} {l : List Asd} (h : OwnA w B v l) : ∃ (a : Option Addr) (cap : Nat), v = .slice a l.length cap ∧ Handed a l.length cap ∧ AsRow w a l := by
  obtain ⟨a, cap, e, hc, hr, hn, hs⟩ := h.form
  refine ⟨a, cap, e, ?_, hr⟩
  cases a with
  | none => exact .inl ⟨rfl, by rw [(hn rfl).1]; rfl, (hn rfl).2⟩
  | some ad =>
    obtain ⟨g, rfl, _⟩ := hs ad rfl
    exact .inr ⟨hc, g, 0, rfl⟩
/-- What is drawn. -/
def DrawnL (l : List Asd) : Prop := l.length ≤ 60 ∧ ∀ x ∈ l, goodA x = true → Near 2000000 x
theorem flAt_drawn {l : List Asd} {Y : Int} {i : Nat} (h : FlAt l Y i) (hi : i ≤ 41) : DrawnL l := ⟨by have := h.len; omega, fun x hx _ => (h.near x hx).1.more (by omega)⟩
theorem drawn_snoc {l : List Asd} {Y : Int} {i : Nat} {x : Asd} (h : FlAt l Y i) (hi : i ≤ 41) (hx : goodA x = true → Near 2000000 x) : DrawnL (l ++ [x]) := by
  refine ⟨by have := h.len; simp; omega, fun z hz hg => ?_⟩
  rcases List.mem_append.1 hz with hz | hz
  · exact (h.near z hz).1.more (by omega)
  · rw [List.mem_singleton] at hz
    subst hz
    exact hx hg
set_option maxHeartbeats 16000000 in
theorem floats_any (b len cap m : Nat) (a : Option Addr) (w : World) (hm : m ≤ 1000000000000) (hC : CurOk w b a len cap m) :
    Calls Try.prog 28 #[.pointer (some ⟨b, 0, none⟩)] w fun e w' => ∃ v l, e = .returned v ∧ OwnA w' w.heap.size v l ∧ DrawnL l ∧ CurOk w' b a len cap (m + 10000) ∧ w.grownBy w' (some b) := by
  obtain ⟨i0, hi, hz0, hz1, hz2⟩ := info_parts infoAside
  have HC0 : Hid (CurOk w b a len cap m) := hC
  have HBB : Hid (b < w.heap.size) := hC.lt
  clear hC
  go_enter Try.func28, Try.ntmps28
  go_wp2_with fail
  refine (pick_any b len cap m a 4 _ (by omega) HC0.out (by omega) (by omega)).mono ?_
  rintro e w1 ⟨y1, rfl, y10, y11, c1, g1⟩
  go_wp2_with fail
  refine (pick_any b len cap _ a 7 _ (by omega) c1 (by omega) (by omega)).mono ?_
  rintro e w2 ⟨n2, rfl, n20, n21, c2, g2⟩
  have G2 := grown_trans g1 g2
  clear c1 g1 g2
  go_wp2_with fail
  refine (one_any b len cap _ a 30 _ (by omega) c2 (by omega) (by omega)).mono ?_
  rintro e w3 ⟨q3, rfl, c3, g3⟩
  have G3 := grown_trans G2 g3
  clear c2 G2 g3
  have HG3 : Hid (w.grownBy w3 (some b)) := G3
  have HC3 : Hid (CurOk w3 b a len cap (m + 100)) := c3.more (by omega)
  have NN : ∃ k0 : Nat, k0 ≤ 41 ∧ (k0 : Int) = (if q3 then 41 else n2) := by
    cases q3
    · exact ⟨n2.toNat, by omega, by simp; omega⟩
    · exact ⟨41, by omega, rfl⟩
  obtain ⟨k0, hk0, hke⟩ := NN
  have HK0 : Hid (k0 ≤ 41) := hk0
  clear c3 G3
  have REL : FlAt [] (y1 * 64) 0 := ⟨by simp, by omega, by omega, fun x hx => by simp at hx⟩
  have HREL : Hid (FlAt [] (y1 * 64) 0) := REL
  clear REL
  cases q3
  · have HE : Hid ((k0 : Int) = n2) := hke
    clear hke
    go_wp2_with fail
    go_loopw [3, 4, 5] (fun v y n wr => ∃ (i k : Nat) (Y : Int) (l : List Asd), i + k ≤ 41 ∧ y = .int .i64 Y ∧ n = .int .i64 (k : Int) ∧ FlAt l Y i ∧ OwnA wr w.heap.size v l ∧ CurOk wr b a len cap (m + 100 * (i + 1)) ∧ w.grownBy wr (some b)) (fun _ _ n _ => (intOf n).toNat)
    case atStart => exact ⟨0, k0, _, [], by omega, rfl, by rw [HE.out], HREL.out, ownA_nil _ _, HC3.out.more (by omega), HG3.out⟩
    case round =>
      obtain ⟨i, k, Y, l, hik, rfl, rfl, hf, ho, hcu, hgr⟩ := hrel
      by_cases hk : k = 0
      · subst hk
        have HF : Hid (FlAt l Y i) := hf
        have hln := hf.len
        clear hf
        go_wp2_with fail
        refine (pick_any b len cap _ a 40 _ (by omega) hcu (by omega) (by omega)).mono ?_
        rintro e w1 ⟨s1, rfl, s10, s11, c1, g1⟩
        have o1 := ho.turn g1 HBB.out
        have G1 := grown_trans hgr g1
        obtain ⟨a1, cap1, hv1, _, _⟩ := o1.handed
        subst hv1
        obtain ⟨L, hL⟩ : ∃ L, L = l.length := ⟨_, rfl⟩
        rw [← hL] at hln ⊢
        have HL : Hid (L = l.length) := hL
        have HO1 : Hid (OwnA w1 w.heap.size (.slice a1 l.length cap1) l) := o1
        clear hcu ho hgr g1 hL o1
        by_cases z0 : s1 = 0
        · subst z0
          go_wp2_with fail
          refine (pick_any b len cap _ a 4 _ (by omega) c1 (by omega) (by omega)).mono ?_
          rintro e w2 ⟨s2, rfl, s20, s21, c2, g2⟩
          have o2 := HO1.out.turn g2 HBB.out
          have G2 := grown_trans G1 g2
          have hne2 : w2.heap.size ≠ b := by have := HBB.out; have := G2.size; omega
          clear c1 G1 g2
          go_wp2_with fail
          refine (among_any b len cap _ w2.heap.size 3 3 a _ (by omega) (c2.grown (below_one rfl)) (by omega) (by omega) hne2 (fun i hi => three_ints _ _ _ _ i hi)).mono ?_
          rintro e w3 ⟨s3, rfl, c3, g3⟩
          have G3 := grown_trans (grown_trans G2 (grown_of_below b (below_one rfl))) g3
          have o3 := (o2.keep (below_one rfl)).turn g3 HBB.out
          have s3z := G3.size
          have hown3 : ∀ o, (w3.alloc o).ownsRow w.heap.size 27 5 (.slice a1 L cap1) L (flatA l) := fun o => by
            have := o3.keep (below_one (o := o) rfl)
            unfold OwnA at this
            rw [← HL.out] at this
            exact this
          have ob3 : ∀ k, (Value.slice a1 L cap1).ownBlock = some k → w.heap.size ≤ k := fun k hk => o3.base k (by rw [← HL.out]; exact hk)
          clear c2 G2 g3 o2 o3
          go_wp2_with (at_builtin; refine wpList_append_own _ rfl (.tmp 50) (.tmp 57) 23 rfl w.heap.size 27 i0 (.agg #[.int .i64 0, .int .i64 0, .int .i64 0, .int .i64 0, .int .i64 0]) 5 40 Try.underlying23 hi hz0 hz1 hz2 rfl (by decide) _ _ _ rfl (hown3 _) ⟨w3.heap.size, 0, none⟩ 1 1 (asL ⟨s2, 0, 0, s3, 9⟩) rfl rfl (five_cells _ ⟨s2, 0, 0, s3, 9⟩ _ _ rfl) (asL_one _) (by unfold maxLen; omega) (by omega) (by simp; omega) ?_)
          intro v4 w4 hown4 hgrow4 _
          have o4 : OwnA w4 w.heap.size v4 (l ++ [⟨s2, 0, 0, s3, 9⟩]) := OwnA.snoc HL.out hown4
          obtain ⟨c4, G4⟩ := cur_own HC0.out (c3.grown (below_one rfl)) (grown_trans G3 (grown_of_below b (below_one rfl))) hgrow4 ob3
          clear hown4 hgrow4 hown3 c3 G3 ob3
          go_wp2
          go_ret
          exact ⟨_, _, rfl, o4, drawn_snoc HF.out (by omega) (fun hg => by
            have h := goodA_parts hg
            obtain ⟨_, h1, h2, _, _⟩ := h
            have h1' : s3 ≤ 1000000 := h1.2
            exact ⟨by show -2000000 ≤ (0 : Int); omega, by show (0 : Int) + s3 ≤ 2000000; omega, by show (0 : Int) + 9 ≤ 2000000; omega, by show (0 : Int) ≤ 2000000; omega⟩), c4.more (by omega), G4⟩
        by_cases z1 : s1 = 1
        · subst z1
          go_wp2_with fail
          refine (pick_any b len cap _ a 9 _ (by omega) c1 (by omega) (by omega)).mono ?_
          rintro e w2 ⟨s2, rfl, s20, s21, c2, g2⟩
          have o2 := HO1.out.turn g2 HBB.out
          have G2 := grown_trans G1 g2
          clear c1 G1 g2
          go_wp2_with fail
          refine (pick_any b len cap _ a 9 _ (by omega) c2 (by omega) (by omega)).mono ?_
          rintro e w3 ⟨s3, rfl, s30, s31, c3, g3⟩
          have G3 := grown_trans G2 g3
          have o3 := o2.turn g3 HBB.out
          have s3z := G3.size
          have hown3 : ∀ o, (w3.alloc o).ownsRow w.heap.size 27 5 (.slice a1 L cap1) L (flatA l) := fun o => by
            have := o3.keep (below_one (o := o) rfl)
            unfold OwnA at this
            rw [← HL.out] at this
            exact this
          have ob3 : ∀ k, (Value.slice a1 L cap1).ownBlock = some k → w.heap.size ≤ k := fun k hk => o3.base k (by rw [← HL.out]; exact hk)
          clear c2 G2 g3 o2 o3
          go_wp2_with (at_builtin; refine wpList_append_own _ rfl (.tmp 61) (.tmp 69) 23 rfl w.heap.size 27 i0 (.agg #[.int .i64 0, .int .i64 0, .int .i64 0, .int .i64 0, .int .i64 0]) 5 40 Try.underlying23 hi hz0 hz1 hz2 rfl (by decide) _ _ _ rfl (hown3 _) ⟨w3.heap.size, 0, none⟩ 1 1 (asL ⟨1, 64 * s2, 64 * s3, 640, 640⟩) rfl rfl (five_cells _ ⟨1, 64 * s2, 64 * s3, 640, 640⟩ _ _ rfl) (asL_one _) (by unfold maxLen; omega) (by omega) (by simp; omega) ?_)
          intro v4 w4 hown4 hgrow4 _
          have o4 : OwnA w4 w.heap.size v4 (l ++ [⟨1, 64 * s2, 64 * s3, 640, 640⟩]) := OwnA.snoc HL.out hown4
          obtain ⟨c4, G4⟩ := cur_own HC0.out (c3.grown (below_one rfl)) (grown_trans G3 (grown_of_below b (below_one rfl))) hgrow4 ob3
          clear hown4 hgrow4 hown3 c3 G3 ob3
          go_wp2
          go_ret
          exact ⟨_, _, rfl, o4, drawn_snoc HF.out (by omega) (fun _ => ⟨by show -2000000 ≤ 64 * s2; omega, by show 64 * s2 + 640 ≤ 2000000; omega, by show 64 * s3 + 640 ≤ 2000000; omega, by show 64 * s2 ≤ 2000000; omega⟩), c4.more (by omega), G4⟩
        go_wp2
        go_ret
        exact ⟨_, _, by rw [HL.out]; rfl, HO1.out, flAt_drawn HF.out (by omega), c1.more (by omega), G1⟩
      have hk' : (0 : Int) < (k : Int) := by omega
      have HF : Hid (FlAt l Y i) := hf
      have yb0 := hf.y0
      have yb1 := hf.y1
      have hln := hf.len
      clear hf
      go_wp2_with fail
      refine (pick_any b len cap _ a 2 _ (by omega) hcu (by omega) (by omega)).mono ?_
      rintro e w1 ⟨s1, rfl, s10, s11, c1, g1⟩
      have o1 := ho.turn g1 HBB.out
      have G1 := grown_trans hgr g1
      clear hcu ho hgr g1
      go_wp2_with fail
      refine (pick_any b len cap _ a 30 _ (by omega) c1 (by omega) (by omega)).mono ?_
      rintro e w2 ⟨s2, rfl, s20, s21, c2, g2⟩
      have o2 := o1.turn g2 HBB.out
      have G2 := grown_trans G1 g2
      clear c1 o1 G1 g2
      go_wp2_with fail
      refine (pick_any b len cap _ a 12 _ (by omega) c2 (by omega) (by omega)).mono ?_
      rintro e w3 ⟨s3, rfl, s30, s31, c3, g3⟩
      have o3 := o2.turn g3 HBB.out
      have G3 := grown_trans G2 g3
      clear c2 o2 G2 g3
      obtain ⟨a3, cap3, hv3, hh3, hr3⟩ := o3.handed
      subst hv3
      have PF := specPlace_any a3 l.length cap3 l (1 + s1) (64 * s2) (64 * s3) Y 0 2560 w3 rfl hr3 (by omega)
      have HX : Hid (placeOk l (1 + s1) (64 * s2) (64 * s3) Y 0 2560 = true → placeR l (1 + s1) (64 * s2) (64 * s3) Y 0 2560 = putF l (1 + s1) (64 * s2) (64 * s3) Y 0 2560) := fun h => if_pos h
      generalize placeOk l (1 + s1) (64 * s2) (64 * s3) Y 0 2560 = ok at PF HX
      generalize placeR l (1 + s1) (64 * s2) (64 * s3) Y 0 2560 = X at PF HX
      obtain ⟨L, hL⟩ : ∃ L, L = l.length := ⟨_, rfl⟩
      rw [← hL] at PF hln hh3 ⊢
      have PF' : Calls Try.prog 11 #[.slice a3 L cap3, .int .i64 (1 + s1), .int .i64 (64 * s2), .int .i64 (64 * s3), .int .i64 Y, .int .i64 0, .int .i64 2560] w3 fun e w' => e = .returned (.tuple #[.agg #[.int .i64 X.sd, .int .i64 X.x, .int .i64 X.y, .int .i64 X.w, .int .i64 X.h], .bool ok]) ∧ Below w3.heap.size w3 w' := PF
      have HL : Hid (L = l.length) := hL
      clear PF hL hh3 hr3
      go_wp2_with fail
      refine PF'.mono ?_
      rintro e w4 ⟨rfl, b4⟩
      have c4 := c3.grown b4
      have G4 := grown_trans G3 (grown_of_below b b4)
      have o4 := o3.keep b4
      clear c3 G3 o3 b4 PF'
      have c4' : ∀ o, CurOk (w4.alloc o) b a len cap _ := fun o => c4.grown (below_one rfl)
      have G4' : ∀ o, w.grownBy (w4.alloc o) (some b) := fun o => grown_trans G4 (grown_of_below b (below_one rfl))
      have o4' : ∀ o, OwnA (w4.alloc o) w.heap.size (.slice a3 L cap3) l := fun o => by rw [HL.out]; exact o4.keep (below_one rfl)
      cases ok
      · clear HX c4 G4 o4
        go_wp2_with fail
        refine (one_any b len cap _ a 3 _ (by omega) (c4' _) (by omega) (by omega)).mono ?_
        rintro e w5 ⟨t5, rfl, c5, g5⟩
        have G5 := grown_trans (G4' _) g5
        have o5 := (o4' _).turn g5 HBB.out
        clear c4' G4' o4' g5
        cases t5
        · go_wp2
          go_roundw
          case rel => exact ⟨i + 1, k - 1, _, _, by omega, rfl, by go_num, flAt_skip HF.out (by omega) (by omega), o5, c5.more (by omega), G5⟩
          case measure => simp [intOf]; omega
        · go_wp2_with fail
          refine (pick_any b len cap _ a 6 _ (by omega) c5 (by omega) (by omega)).mono ?_
          rintro e w7 ⟨s7, rfl, s70, s71, c7, g7⟩
          have G7 := grown_trans G5 g7
          have o7 := o5.turn g7 HBB.out
          clear g7 c5 G5 o5
          go_wp2
          go_roundw
          case rel => exact ⟨i + 1, k - 1, _, _, by omega, rfl, by go_num, flAt_skip HF.out (by omega) (by omega), o7, c7.more (by omega), G7⟩
          case measure => simp [intOf]; omega
      have hX := HX.out rfl
      have HX2 : Hid (X = putF l (1 + s1) (64 * s2) (64 * s3) Y 0 2560) := hX
      have oo := fun o => (o4' o)
      have s4 := G4.size
      have HS4 : Hid (w.heap.size ≤ w4.heap.size) := G4.size
      have hown4 : ∀ o o', ((w4.alloc o).alloc o').ownsRow w.heap.size 27 5 (.slice a3 L cap3) L (flatA l) := fun o o' => by
        have := (o4' o).keep (below_one (o := o') rfl)
        unfold OwnA at this
        rw [← HL.out] at this
        exact this
      have ob4 : ∀ k, (Value.slice a3 L cap3).ownBlock = some k → w.heap.size ≤ k := fun k hk => (o4' (.cells #[] 0)).base k hk
      clear hX oo HX o4 o4'
      go_wp2_with (at_builtin; refine wpList_append_own _ rfl (.tmp 35) (.tmp 37) 23 rfl w.heap.size 27 i0 (.agg #[.int .i64 0, .int .i64 0, .int .i64 0, .int .i64 0, .int .i64 0]) 5 40 Try.underlying23 hi hz0 hz1 hz2 rfl (by decide) _ _ _ rfl (hown4 _ _) ⟨w4.heap.size + 1, 0, none⟩ 1 1 (asL X) rfl rfl (five_cells _ _ _ _ (by simp)) (asL_one X) (by unfold maxLen; omega) (by omega) (by simp; omega) ?_)
      intro v5 w5 hown5 hgrow5 _
      have o5 : OwnA w5 w.heap.size v5 (l ++ [X]) := OwnA.snoc HL.out hown5
      obtain ⟨c5, G5⟩ := cur_own HC0.out ((c4' _).grown (below_one rfl)) (grown_trans (G4' _) (grown_of_below b (below_one rfl))) hgrow5 ob4
      clear hown5 hgrow5 hown4 c4' G4' c4 G4 ob4
      go_wp2_with fail
      refine (one_any b len cap _ a 3 _ (by omega) c5 (by omega) (by omega)).mono ?_
      rintro e w6 ⟨t5, rfl, c6, g6⟩
      have G6 := grown_trans G5 g6
      have o6 := o5.turn g6 HBB.out
      clear c5 G5 g6 o5
      cases t5
      · go_wp2
        go_roundw
        case rel => exact ⟨i + 1, k - 1, _, _, by omega, rfl, by go_num, (by rw [HX2.out]; exact flAt_put HF.out (by omega) (by omega) (by omega) (by omega) (by omega) (by omega)), o6, c6.more (by omega), G6⟩
        case measure => simp [intOf]; omega
      · go_wp2_with fail
        refine (pick_any b len cap _ a 6 _ (by omega) c6 (by omega) (by omega)).mono ?_
        rintro e w7 ⟨s7, rfl, s70, s71, c7, g7⟩
        have G7 := grown_trans G6 g7
        have o7 := o6.turn g7 HBB.out
        clear g7 c6 G6 o6
        go_wp2
        go_roundw
        case rel => exact ⟨i + 1, k - 1, _, _, by omega, rfl, by go_num, (by rw [HX2.out]; exact flAt_put HF.out (by omega) (by omega) (by omega) (by omega) (by omega) (by omega)), o7, c7.more (by omega), G7⟩
        case measure => simp [intOf]; omega
  · have HE : Hid ((k0 : Int) = 41) := hke
    clear hke
    go_wp2_with fail
    go_loopw [3, 4, 5] (fun v y n wr => ∃ (i k : Nat) (Y : Int) (l : List Asd), i + k ≤ 41 ∧ y = .int .i64 Y ∧ n = .int .i64 (k : Int) ∧ FlAt l Y i ∧ OwnA wr w.heap.size v l ∧ CurOk wr b a len cap (m + 100 * (i + 1)) ∧ w.grownBy wr (some b)) (fun _ _ n _ => (intOf n).toNat)
    case atStart => exact ⟨0, k0, _, [], by omega, rfl, by rw [HE.out], HREL.out, ownA_nil _ _, HC3.out.more (by omega), HG3.out⟩
    case round =>
      obtain ⟨i, k, Y, l, hik, rfl, rfl, hf, ho, hcu, hgr⟩ := hrel
      by_cases hk : k = 0
      · subst hk
        have HF : Hid (FlAt l Y i) := hf
        have hln := hf.len
        clear hf
        go_wp2_with fail
        refine (pick_any b len cap _ a 40 _ (by omega) hcu (by omega) (by omega)).mono ?_
        rintro e w1 ⟨s1, rfl, s10, s11, c1, g1⟩
        have o1 := ho.turn g1 HBB.out
        have G1 := grown_trans hgr g1
        obtain ⟨a1, cap1, hv1, _, _⟩ := o1.handed
        subst hv1
        obtain ⟨L, hL⟩ : ∃ L, L = l.length := ⟨_, rfl⟩
        rw [← hL] at hln ⊢
        have HL : Hid (L = l.length) := hL
        have HO1 : Hid (OwnA w1 w.heap.size (.slice a1 l.length cap1) l) := o1
        clear hcu ho hgr g1 hL o1
        by_cases z0 : s1 = 0
        · subst z0
          go_wp2_with fail
          refine (pick_any b len cap _ a 4 _ (by omega) c1 (by omega) (by omega)).mono ?_
          rintro e w2 ⟨s2, rfl, s20, s21, c2, g2⟩
          have o2 := HO1.out.turn g2 HBB.out
          have G2 := grown_trans G1 g2
          have hne2 : w2.heap.size ≠ b := by have := HBB.out; have := G2.size; omega
          clear c1 G1 g2
          go_wp2_with fail
          refine (among_any b len cap _ w2.heap.size 3 3 a _ (by omega) (c2.grown (below_one rfl)) (by omega) (by omega) hne2 (fun i hi => three_ints _ _ _ _ i hi)).mono ?_
          rintro e w3 ⟨s3, rfl, c3, g3⟩
          have G3 := grown_trans (grown_trans G2 (grown_of_below b (below_one rfl))) g3
          have o3 := (o2.keep (below_one rfl)).turn g3 HBB.out
          have s3z := G3.size
          have hown3 : ∀ o, (w3.alloc o).ownsRow w.heap.size 27 5 (.slice a1 L cap1) L (flatA l) := fun o => by
            have := o3.keep (below_one (o := o) rfl)
            unfold OwnA at this
            rw [← HL.out] at this
            exact this
          have ob3 : ∀ k, (Value.slice a1 L cap1).ownBlock = some k → w.heap.size ≤ k := fun k hk => o3.base k (by rw [← HL.out]; exact hk)
          clear c2 G2 g3 o2 o3
          go_wp2_with (at_builtin; refine wpList_append_own _ rfl (.tmp 50) (.tmp 57) 23 rfl w.heap.size 27 i0 (.agg #[.int .i64 0, .int .i64 0, .int .i64 0, .int .i64 0, .int .i64 0]) 5 40 Try.underlying23 hi hz0 hz1 hz2 rfl (by decide) _ _ _ rfl (hown3 _) ⟨w3.heap.size, 0, none⟩ 1 1 (asL ⟨s2, 0, 0, s3, 9⟩) rfl rfl (five_cells _ ⟨s2, 0, 0, s3, 9⟩ _ _ rfl) (asL_one _) (by unfold maxLen; omega) (by omega) (by simp; omega) ?_)
          intro v4 w4 hown4 hgrow4 _
          have o4 : OwnA w4 w.heap.size v4 (l ++ [⟨s2, 0, 0, s3, 9⟩]) := OwnA.snoc HL.out hown4
          obtain ⟨c4, G4⟩ := cur_own HC0.out (c3.grown (below_one rfl)) (grown_trans G3 (grown_of_below b (below_one rfl))) hgrow4 ob3
          clear hown4 hgrow4 hown3 c3 G3 ob3
          go_wp2
          go_ret
          exact ⟨_, _, rfl, o4, drawn_snoc HF.out (by omega) (fun hg => by
            have h := goodA_parts hg
            obtain ⟨_, h1, h2, _, _⟩ := h
            have h1' : s3 ≤ 1000000 := h1.2
            exact ⟨by show -2000000 ≤ (0 : Int); omega, by show (0 : Int) + s3 ≤ 2000000; omega, by show (0 : Int) + 9 ≤ 2000000; omega, by show (0 : Int) ≤ 2000000; omega⟩), c4.more (by omega), G4⟩
        by_cases z1 : s1 = 1
        · subst z1
          go_wp2_with fail
          refine (pick_any b len cap _ a 9 _ (by omega) c1 (by omega) (by omega)).mono ?_
          rintro e w2 ⟨s2, rfl, s20, s21, c2, g2⟩
          have o2 := HO1.out.turn g2 HBB.out
          have G2 := grown_trans G1 g2
          clear c1 G1 g2
          go_wp2_with fail
          refine (pick_any b len cap _ a 9 _ (by omega) c2 (by omega) (by omega)).mono ?_
          rintro e w3 ⟨s3, rfl, s30, s31, c3, g3⟩
          have G3 := grown_trans G2 g3
          have o3 := o2.turn g3 HBB.out
          have s3z := G3.size
          have hown3 : ∀ o, (w3.alloc o).ownsRow w.heap.size 27 5 (.slice a1 L cap1) L (flatA l) := fun o => by
            have := o3.keep (below_one (o := o) rfl)
            unfold OwnA at this
            rw [← HL.out] at this
            exact this
          have ob3 : ∀ k, (Value.slice a1 L cap1).ownBlock = some k → w.heap.size ≤ k := fun k hk => o3.base k (by rw [← HL.out]; exact hk)
          clear c2 G2 g3 o2 o3
          go_wp2_with (at_builtin; refine wpList_append_own _ rfl (.tmp 61) (.tmp 69) 23 rfl w.heap.size 27 i0 (.agg #[.int .i64 0, .int .i64 0, .int .i64 0, .int .i64 0, .int .i64 0]) 5 40 Try.underlying23 hi hz0 hz1 hz2 rfl (by decide) _ _ _ rfl (hown3 _) ⟨w3.heap.size, 0, none⟩ 1 1 (asL ⟨1, 64 * s2, 64 * s3, 640, 640⟩) rfl rfl (five_cells _ ⟨1, 64 * s2, 64 * s3, 640, 640⟩ _ _ rfl) (asL_one _) (by unfold maxLen; omega) (by omega) (by simp; omega) ?_)
          intro v4 w4 hown4 hgrow4 _
          have o4 : OwnA w4 w.heap.size v4 (l ++ [⟨1, 64 * s2, 64 * s3, 640, 640⟩]) := OwnA.snoc HL.out hown4
          obtain ⟨c4, G4⟩ := cur_own HC0.out (c3.grown (below_one rfl)) (grown_trans G3 (grown_of_below b (below_one rfl))) hgrow4 ob3
          clear hown4 hgrow4 hown3 c3 G3 ob3
          go_wp2
          go_ret
          exact ⟨_, _, rfl, o4, drawn_snoc HF.out (by omega) (fun _ => ⟨by show -2000000 ≤ 64 * s2; omega, by show 64 * s2 + 640 ≤ 2000000; omega, by show 64 * s3 + 640 ≤ 2000000; omega, by show 64 * s2 ≤ 2000000; omega⟩), c4.more (by omega), G4⟩
        go_wp2
        go_ret
        exact ⟨_, _, by rw [HL.out]; rfl, HO1.out, flAt_drawn HF.out (by omega), c1.more (by omega), G1⟩
      have hk' : (0 : Int) < (k : Int) := by omega
      have HF : Hid (FlAt l Y i) := hf
      have yb0 := hf.y0
      have yb1 := hf.y1
      have hln := hf.len
      clear hf
      go_wp2_with fail
      refine (pick_any b len cap _ a 2 _ (by omega) hcu (by omega) (by omega)).mono ?_
      rintro e w1 ⟨s1, rfl, s10, s11, c1, g1⟩
      have o1 := ho.turn g1 HBB.out
      have G1 := grown_trans hgr g1
      clear hcu ho hgr g1
      go_wp2_with fail
      refine (pick_any b len cap _ a 30 _ (by omega) c1 (by omega) (by omega)).mono ?_
      rintro e w2 ⟨s2, rfl, s20, s21, c2, g2⟩
      have o2 := o1.turn g2 HBB.out
      have G2 := grown_trans G1 g2
      clear c1 o1 G1 g2
      go_wp2_with fail
      refine (pick_any b len cap _ a 12 _ (by omega) c2 (by omega) (by omega)).mono ?_
      rintro e w3 ⟨s3, rfl, s30, s31, c3, g3⟩
      have o3 := o2.turn g3 HBB.out
      have G3 := grown_trans G2 g3
      clear c2 o2 G2 g3
      obtain ⟨a3, cap3, hv3, hh3, hr3⟩ := o3.handed
      subst hv3
      have PF := specPlace_any a3 l.length cap3 l (1 + s1) (64 * s2) (64 * s3) Y 0 2560 w3 rfl hr3 (by omega)
      have HX : Hid (placeOk l (1 + s1) (64 * s2) (64 * s3) Y 0 2560 = true → placeR l (1 + s1) (64 * s2) (64 * s3) Y 0 2560 = putF l (1 + s1) (64 * s2) (64 * s3) Y 0 2560) := fun h => if_pos h
      generalize placeOk l (1 + s1) (64 * s2) (64 * s3) Y 0 2560 = ok at PF HX
      generalize placeR l (1 + s1) (64 * s2) (64 * s3) Y 0 2560 = X at PF HX
      obtain ⟨L, hL⟩ : ∃ L, L = l.length := ⟨_, rfl⟩
      rw [← hL] at PF hln hh3 ⊢
      have PF' : Calls Try.prog 11 #[.slice a3 L cap3, .int .i64 (1 + s1), .int .i64 (64 * s2), .int .i64 (64 * s3), .int .i64 Y, .int .i64 0, .int .i64 2560] w3 fun e w' => e = .returned (.tuple #[.agg #[.int .i64 X.sd, .int .i64 X.x, .int .i64 X.y, .int .i64 X.w, .int .i64 X.h], .bool ok]) ∧ Below w3.heap.size w3 w' := PF
      have HL : Hid (L = l.length) := hL
      clear PF hL hh3 hr3
      go_wp2_with fail
      refine PF'.mono ?_
      rintro e w4 ⟨rfl, b4⟩
      have c4 := c3.grown b4
      have G4 := grown_trans G3 (grown_of_below b b4)
      have o4 := o3.keep b4
      clear c3 G3 o3 b4 PF'
      have c4' : ∀ o, CurOk (w4.alloc o) b a len cap _ := fun o => c4.grown (below_one rfl)
      have G4' : ∀ o, w.grownBy (w4.alloc o) (some b) := fun o => grown_trans G4 (grown_of_below b (below_one rfl))
      have o4' : ∀ o, OwnA (w4.alloc o) w.heap.size (.slice a3 L cap3) l := fun o => by rw [HL.out]; exact o4.keep (below_one rfl)
      cases ok
      · clear HX c4 G4 o4
        go_wp2_with fail
        refine (one_any b len cap _ a 3 _ (by omega) (c4' _) (by omega) (by omega)).mono ?_
        rintro e w5 ⟨t5, rfl, c5, g5⟩
        have G5 := grown_trans (G4' _) g5
        have o5 := (o4' _).turn g5 HBB.out
        clear c4' G4' o4' g5
        cases t5
        · go_wp2
          go_roundw
          case rel => exact ⟨i + 1, k - 1, _, _, by omega, rfl, by go_num, flAt_skip HF.out (by omega) (by omega), o5, c5.more (by omega), G5⟩
          case measure => simp [intOf]; omega
        · go_wp2_with fail
          refine (pick_any b len cap _ a 6 _ (by omega) c5 (by omega) (by omega)).mono ?_
          rintro e w7 ⟨s7, rfl, s70, s71, c7, g7⟩
          have G7 := grown_trans G5 g7
          have o7 := o5.turn g7 HBB.out
          clear g7 c5 G5 o5
          go_wp2
          go_roundw
          case rel => exact ⟨i + 1, k - 1, _, _, by omega, rfl, by go_num, flAt_skip HF.out (by omega) (by omega), o7, c7.more (by omega), G7⟩
          case measure => simp [intOf]; omega
      have hX := HX.out rfl
      have HX2 : Hid (X = putF l (1 + s1) (64 * s2) (64 * s3) Y 0 2560) := hX
      have oo := fun o => (o4' o)
      have s4 := G4.size
      have HS4 : Hid (w.heap.size ≤ w4.heap.size) := G4.size
      have hown4 : ∀ o o', ((w4.alloc o).alloc o').ownsRow w.heap.size 27 5 (.slice a3 L cap3) L (flatA l) := fun o o' => by
        have := (o4' o).keep (below_one (o := o') rfl)
        unfold OwnA at this
        rw [← HL.out] at this
        exact this
      have ob4 : ∀ k, (Value.slice a3 L cap3).ownBlock = some k → w.heap.size ≤ k := fun k hk => (o4' (.cells #[] 0)).base k hk
      clear hX oo HX o4 o4'
      go_wp2_with (at_builtin; refine wpList_append_own _ rfl (.tmp 35) (.tmp 37) 23 rfl w.heap.size 27 i0 (.agg #[.int .i64 0, .int .i64 0, .int .i64 0, .int .i64 0, .int .i64 0]) 5 40 Try.underlying23 hi hz0 hz1 hz2 rfl (by decide) _ _ _ rfl (hown4 _ _) ⟨w4.heap.size + 1, 0, none⟩ 1 1 (asL X) rfl rfl (five_cells _ _ _ _ (by simp)) (asL_one X) (by unfold maxLen; omega) (by omega) (by simp; omega) ?_)
      intro v5 w5 hown5 hgrow5 _
      have o5 : OwnA w5 w.heap.size v5 (l ++ [X]) := OwnA.snoc HL.out hown5
      obtain ⟨c5, G5⟩ := cur_own HC0.out ((c4' _).grown (below_one rfl)) (grown_trans (G4' _) (grown_of_below b (below_one rfl))) hgrow5 ob4
      clear hown5 hgrow5 hown4 c4' G4' c4 G4 ob4
      go_wp2_with fail
      refine (one_any b len cap _ a 3 _ (by omega) c5 (by omega) (by omega)).mono ?_
      rintro e w6 ⟨t5, rfl, c6, g6⟩
      have G6 := grown_trans G5 g6
      have o6 := o5.turn g6 HBB.out
      clear c5 G5 g6 o5
      cases t5
      · go_wp2
        go_roundw
        case rel => exact ⟨i + 1, k - 1, _, _, by omega, rfl, by go_num, (by rw [HX2.out]; exact flAt_put HF.out (by omega) (by omega) (by omega) (by omega) (by omega) (by omega)), o6, c6.more (by omega), G6⟩
        case measure => simp [intOf]; omega
      · go_wp2_with fail
        refine (pick_any b len cap _ a 6 _ (by omega) c6 (by omega) (by omega)).mono ?_
        rintro e w7 ⟨s7, rfl, s70, s71, c7, g7⟩
        have G7 := grown_trans G6 g7
        have o7 := o6.turn g7 HBB.out
        clear g7 c6 G6 o6
        go_wp2
        go_roundw
        case rel => exact ⟨i + 1, k - 1, _, _, by omega, rfl, by go_num, (by rw [HX2.out]; exact flAt_put HF.out (by omega) (by omega) (by omega) (by omega) (by omega) (by omega)), o7, c7.more (by omega), G7⟩
        case measure => simp [intOf]; omega
end Go.Proofs.Ytngbkcihdbnlgaa
