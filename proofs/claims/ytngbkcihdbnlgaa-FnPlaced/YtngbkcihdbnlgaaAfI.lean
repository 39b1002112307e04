/-
  Where the program places a float, for every row of good floats.
-/
import Derived.Test.YtngbkcihdbnlgaaAfL
import Derived.Deep.RegionLawGrows
import Derived.Lib.Builder
namespace Go.Proofs.Ytngbkcihdbnlgaa
open Go.ChangeShapes Go.WideShapes Go.ChangeAt Go.RowKit
set_option linter.unusedVariables false

def besideX (x : Asd) (fr to : Int) : Int := if x.sd = 2 then to - x.w else fr
set_option maxHeartbeats 4000000 in
theorem beside_any (x : Asd) (fr to : Int) (w : World) (t0 : -300000000 ≤ to) (t1 : to ≤ 300000000) (w0 : 0 ≤ x.w) (w1 : x.w ≤ 1000000) :
    Calls Try.prog 52 #[.agg #[.int .i64 x.sd, .int .i64 x.x, .int .i64 x.y, .int .i64 x.w, .int .i64 x.h], .int .i64 fr, .int .i64 to] w fun e w' => e = .returned (.agg #[.int .i64 x.sd, .int .i64 (besideX x fr to), .int .i64 x.y, .int .i64 x.w, .int .i64 x.h]) ∧ Below w.heap.size w w' := by
  have F1 : IntKind.i64.wrap (to - x.w) = to - x.w := wrapA _ (by omega) (by omega)
  rcases Bool.eq_false_or_eq_true (decide (x.sd = 2)) with hs | hs
  · have HE : Hid (besideX x fr to = to - x.w) := if_pos (of_decide_eq_true hs)
    go_enter Try.func52, Try.ntmps52
    go_wp2_with fail
    refine (isRight_any ⟨x.sd, fr, x.y, x.w, x.h⟩ _).mono ?_
    rintro e w' ⟨rfl, rfl⟩
    rw [hs]
    clear hs
    go_wp2
    refine bodyPost_ret (v := .agg #[.int .i64 x.sd, .int .i64 (besideX x fr to), .int .i64 x.y, .int .i64 x.w, .int .i64 x.h]) (by rw [HE.out]; simp [results, Try.results52, go_sem]) rfl ⟨rfl, ?_⟩
    repeat (first | exact Below.refl _ _ | refine Below.setCell ?_ (by first | (simp; done) | (simp; omega)) _ | refine Below.alloc ?_ (by first | (simp; done) | (simp; omega)) _)
  · have HE : Hid (besideX x fr to = fr) := if_neg (of_decide_eq_false hs)
    go_enter Try.func52, Try.ntmps52
    go_wp2_with fail
    refine (isRight_any ⟨x.sd, fr, x.y, x.w, x.h⟩ _).mono ?_
    rintro e w' ⟨rfl, rfl⟩
    rw [hs]
    clear hs
    go_wp2
    refine bodyPost_ret (v := .agg #[.int .i64 x.sd, .int .i64 (besideX x fr to), .int .i64 x.y, .int .i64 x.w, .int .i64 x.h]) (by rw [HE.out]; simp [results, Try.results52, go_sem]) rfl ⟨rfl, ?_⟩
    repeat (first | exact Below.refl _ _ | refine Below.setCell ?_ (by first | (simp; done) | (simp; omega)) _ | refine Below.alloc ?_ (by first | (simp; done) | (simp; omega)) _)
def yIn (g : Nat) (w : World) : Int := match w.cell? ⟨g, 2, none⟩ with | some (.int _ z) => z | _ => 0
theorem yIn_of {g : Nat} {w : World} {z : Int} (h : w.cell? ⟨g, 2, none⟩ = some (.int .i64 z)) : yIn g w = z := by unfold yIn; rw [h]
set_option maxHeartbeats 16000000 in
theorem placed_some (bb off n cap : Nat) (l : List Asd) (x : Asd) (left right : Int) (w : World) (hn : n = l.length) (hr : AsRow w (some ⟨bb, off, none⟩) l) (hl : n ≤ 1000) (hcap : n ≤ cap) (hx : ∀ x ∈ l, goodA x = true)
    (hw0 : 0 ≤ x.w) (hw1 : x.w ≤ 1000000) (hh0 : 0 ≤ x.h) (hh1 : x.h ≤ 1000000) (hy0 : -100000000 ≤ x.y) (hy1 : x.y ≤ 100000000) (hl0 : -100000000 ≤ left) (hl1 : left ≤ 100000000) (hr0 : -100000000 ≤ right) (hr1 : right ≤ 100000000) :
    Calls Try.prog 32 #[.slice (some ⟨bb, off, none⟩) n cap, .agg #[.int .i64 x.sd, .int .i64 x.x, .int .i64 x.y, .int .i64 x.w, .int .i64 x.h], .int .i64 left, .int .i64 right] w fun e w' => e = .returned (.agg (asC (putF l x.sd x.w x.h x.y left right))) ∧ Below w.heap.size w w' := by
  obtain ⟨i0, hi, hz0, hz1, hz2⟩ := info_parts infoAside
  have HN : Hid (n = l.length) := hn
  have HR : Hid (AsRow w (some ⟨bb, off, none⟩) l) := hr
  have HX : Hid (∀ x ∈ l, goodA x = true) := hx
  have FX : Hid (∀ x ∈ l, Fine x) := fun x hm => goodA_fine (hx x hm)
  have hfl : (flatA l).length = n * 5 := by rw [flatA_len, hn]
  have HOW : Hid (∀ (W : World), Below w.heap.size w W → ∀ (b : Addr), ((some ⟨bb, off, none⟩) : Option Addr) = some b → ∀ j u, (flatA l)[j]? = some u → W.cell? (b.add j) = some u) := fun W hW b hb j u hj => by
    obtain ⟨i, z, c, hz, hc, rfl⟩ := flatA_in hj
    obtain ⟨b', off', e, hh⟩ := as_some (hr.below hW) hz
    rw [hb] at e
    simp only [Option.some.injEq] at e
    subst e
    rw [Addr.add_lit]
    exact row_cells hh _ u hj
  have l00 : ((((w.alloc (.cells #[.int .i64 x.sd, .int .i64 x.x, .int .i64 x.y, .int .i64 x.w, .int .i64 x.h] 27)).alloc (.cells #[.int .i64 0, .int .i64 0, .int .i64 0, .int .i64 0, .int .i64 0] 27)).alloc (.cells #[.int .i64 x.sd, .int .i64 x.x, .int .i64 x.y, .int .i64 x.w, .int .i64 x.h] 27)).heap[w.heap.size]?) = some (.cells #[.int .i64 x.sd, .int .i64 x.x, .int .i64 x.y, .int .i64 x.w, .int .i64 x.h] 27 (0, 0)) := heap_in (heap_in (heap_alloc_new w _))
  have z00 : ((((w.alloc (.cells #[.int .i64 x.sd, .int .i64 x.x, .int .i64 x.y, .int .i64 x.w, .int .i64 x.h] 27)).alloc (.cells #[.int .i64 0, .int .i64 0, .int .i64 0, .int .i64 0, .int .i64 0] 27)).alloc (.cells #[.int .i64 x.sd, .int .i64 x.x, .int .i64 x.y, .int .i64 x.w, .int .i64 x.h] 27)).heap[w.heap.size + 1]?) = some (.cells #[.int .i64 0, .int .i64 0, .int .i64 0, .int .i64 0, .int .i64 0] 27 (0, 0)) := heap_in (heap_at _ _ _ (by simp))
  have b00 : Below w.heap.size w (((w.alloc (.cells #[.int .i64 x.sd, .int .i64 x.x, .int .i64 x.y, .int .i64 x.w, .int .i64 x.h] 27)).alloc (.cells #[.int .i64 0, .int .i64 0, .int .i64 0, .int .i64 0, .int .i64 0] 27)).alloc (.cells #[.int .i64 x.sd, .int .i64 x.x, .int .i64 x.y, .int .i64 x.w, .int .i64 x.h] 27)) := (((Below.refl _ _).alloc (Nat.le_refl _) _).alloc (by simp) _).alloc (by simp; omega) _
  have fz0 : ∀ j, ((w.alloc (.cells #[.int .i64 x.sd, .int .i64 x.x, .int .i64 x.y, .int .i64 x.w, .int .i64 x.h] 27)).alloc (.cells #[.int .i64 0, .int .i64 0, .int .i64 0, .int .i64 0, .int .i64 0] 27)).frozen? ⟨w.heap.size, j, none⟩ = false := fun j => by simp
  have HY : Hid (mx topx l x.y = begY l x.y) := rfl
  clear hn hr hx
  go_enter Try.func32, Try.ntmps32
  go_wp2_with fail
  go_region_law (first
    | (refine step_append_grows (by rfl) _ _ 23 (by rfl) 27 i0 _ 5 40 Try.underlying23 hi hz0 hz1 hz2 rfl (by decide) (some ⟨bb, off, none⟩) n n (flatA l) (by rfl) (fun h => by cases h) hfl (HOW.out _ (by repeat (first | exact Below.refl _ _ | refine Below.drew ?_ | refine Below.alloc ?_ (by first | (simp; done) | (simp; omega)) _))) ⟨w.heap.size + 2, 0, none⟩ 1 1 (asL x) (by rfl) (by rfl) (fun j u hj => five_cells ((w.alloc (.cells #[.int .i64 x.sd, .int .i64 x.x, .int .i64 x.y, .int .i64 x.w, .int .i64 x.h] 27)).alloc (.cells #[.int .i64 0, .int .i64 0, .int .i64 0, .int .i64 0, .int .i64 0] 27)) x _ _ (by simp) j u hj) (asL_one x) (by omega) (by unfold maxLen; omega) (by omega) ?_; intro v4 w4 hown4 hgrow4; obtain ⟨g4, c4, rfl, hc4, r4, hB4, hlt4⟩ := own_row (ns := l ++ [x]) (by rw [flatA_snoc]; exact hown4) (by simp [HN.out]) (by omega); have l4 : w4.heap[w.heap.size]? = some (.cells #[.int .i64 x.sd, .int .i64 x.x, .int .i64 x.y, .int .i64 x.w, .int .i64 x.h] 27 (0, 0)) := (hgrow4.block w.heap.size (by simp; omega) (by simp)).trans l00; have z4 : w4.heap[w.heap.size + 1]? = some (.cells #[.int .i64 0, .int .i64 0, .int .i64 0, .int .i64 0, .int .i64 0] 27 (0, 0)) := (hgrow4.block (w.heap.size + 1) (by simp) (by simp)).trans z00; have b4 : Below w.heap.size w w4 := Below.grown (w := ((w.alloc (.cells #[.int .i64 x.sd, .int .i64 x.x, .int .i64 x.y, .int .i64 x.w, .int .i64 x.h] 27)).alloc (.cells #[.int .i64 0, .int .i64 0, .int .i64 0, .int .i64 0, .int .i64 0] 27)).alloc (.cells #[.int .i64 x.sd, .int .i64 x.x, .int .i64 x.y, .int .i64 x.w, .int .i64 x.h] 27)) b00 ⟨hgrow4.os, hgrow4.tape, hgrow4.output, hgrow4.size, hgrow4.block⟩ (by simp; omega) (fun k hk => by cases hk))
    | (go_simp; refine (greatest_row 51 (enters_of Try.func51 (by kernel_rfl) rfl) topx g4 0 (n + 1) c4 l x w4 (by rw [← HN.out]) r4 (by omega) hc4 (fun x W hm => topOf_b x W)).mono ?_; rintro e w5 ⟨rfl, c5⟩; have l5 := below_lies c5 l4 (lies_lt l4); have z5 := below_lies c5 z4 (lies_lt z4); have b5 := b4.trans (c5.mono b4.size); have q2 : w5.cell? ⟨w.heap.size, 2, none⟩ = some (.int .i64 x.y) := cell_at l5 2 rfl; have fz2 : w5.frozen? ⟨w.heap.size, 2, none⟩ = false := Lib.frozen_of_heap l5 2; go_wp2_with fail)
    | fail)
  all_goals
    have l6 : (w5.setCell ⟨w.heap.size, 2, none⟩ (.int .i64 (mx topx l (topx x)))).heap[w.heap.size]? = some (.cells #[.int .i64 x.sd, .int .i64 x.x, .int .i64 (begY l x.y), .int .i64 x.w, .int .i64 x.h] 27 (0, 0)) := heap_setCell_same w5 w.heap.size 2 _ _ _ l5
    have z6 : (w5.setCell ⟨w.heap.size, 2, none⟩ (.int .i64 (mx topx l (topx x)))).heap[w.heap.size + 1]? = some (.cells #[.int .i64 0, .int .i64 0, .int .i64 0, .int .i64 0, .int .i64 0] 27 (0, 0)) := (Below.heap_setCell w5 ⟨w.heap.size, 2, none⟩ _ (w.heap.size + 1) (by simp)).trans z5
    have b6 : Below w.heap.size w (w5.setCell ⟨w.heap.size, 2, none⟩ (.int .i64 (mx topx l (topx x)))) := b5.setCell (Nat.le_refl _) _
    clear l5 z5 b5 q2 fz2 c5 l4 z4 b4 r4 hgrow4 hown4 hc4 hB4 hlt4 l00 z00 b00 fz0 HOW hfl hi hz0 hz1 hz2 HY
    generalize World.setCell w5 _ _ = w6 at l6 z6 b6 ⊢
    have ST := putAt_start (wide := x.w) (high := x.h) (left := left) (right := right) HX.out hy0 hy1
    have HST : Hid (PutAt l x.w x.h left right x.y (begY l x.y) (l.length + 1)) := ST
    have HL6 : Hid (w6.heap[w.heap.size]? = some (.cells #[.int .i64 x.sd, .int .i64 x.x, .int .i64 (begY l x.y), .int .i64 x.w, .int .i64 x.h] 27 (0, 0))) := l6
    have HZ6 : Hid (w6.heap[w.heap.size + 1]? = some (.cells #[.int .i64 0, .int .i64 0, .int .i64 0, .int .i64 0, .int .i64 0] 27 (0, 0))) := z6
    have HB6 : Hid (Below w.heap.size w w6) := b6
    clear ST l6 z6 b6
    go_wp2_with fail
    go_loopw [9] (fun _ wr => ∃ (Y : Int) (f : Nat), PutAt l x.w x.h left right x.y Y f ∧ wr.heap[w.heap.size]? = some (.cells #[.int .i64 x.sd, .int .i64 x.x, .int .i64 Y, .int .i64 x.w, .int .i64 x.h] 27 (0, 0)) ∧ wr.heap[w.heap.size + 1]? = some (.cells #[.int .i64 0, .int .i64 0, .int .i64 0, .int .i64 0, .int .i64 0] 27 (0, 0)) ∧ Below w.heap.size w wr) (fun _ wr => (nextL l (yIn w.heap.size wr)).length)
    case atStart => exact ⟨_, _, HST.out, HL6.out, HZ6.out, HB6.out⟩
    case round =>
      clear HL6 HZ6 HB6 HST
      obtain ⟨Y, f, hp, hl2, hz2', hbw⟩ := hrel
      have HP : Hid (PutAt l x.w x.h left right x.y Y f) := hp
      have y0 := hp.lo
      have y1 := hp.hi
      obtain ⟨⟨ra0, ra1⟩, ⟨rb0, rb1⟩⟩ := room_bds HX.out hl0 hl1 hr0 hr1 Y (endS Y x.h)
      have HYI : Hid (yIn w.heap.size wr = Y) := yIn_of (cell_at hl2 2 rfl)
      have q2 : wr.cell? ⟨w.heap.size, 2, none⟩ = some (.int .i64 Y) := cell_at hl2 2 rfl
      have q4 : wr.cell? ⟨w.heap.size, 4, none⟩ = some (.int .i64 x.h) := cell_at hl2 4 rfl
      clear hp
      go_wp2_with fail
      refine (stretchOf_any Y x.h _ (by omega) (by omega) (by omega) (by omega)).mono ?_
      rintro e w2 ⟨rfl, c2⟩
      have b2 := hbw.trans (c2.mono hbw.size)
      have l2 := below_lies c2 hl2 (lies_lt hl2)
      have z2 := below_lies c2 hz2' (lies_lt hz2')
      have b2' : ∀ o, Below w.heap.size w (w2.alloc o) := fun o => b2.alloc b2.size _
      have l2' : ∀ o, (w2.alloc o).heap[w.heap.size]? = some (.cells #[.int .i64 x.sd, .int .i64 x.x, .int .i64 Y, .int .i64 x.w, .int .i64 x.h] 27 (0, 0)) := fun o => heap_in l2
      have z2' : ∀ o, (w2.alloc o).heap[w.heap.size + 1]? = some (.cells #[.int .i64 0, .int .i64 0, .int .i64 0, .int .i64 0, .int .i64 0] 27 (0, 0)) := fun o => heap_in z2
      clear c2 hbw hl2 hz2' q2 q4 b2 l2 z2
      go_wp2_with fail
      refine (roomIn_any Y (endS Y x.h) (some ⟨bb, off, none⟩) n cap l left right _ HN.out (HR.out.below (b2' _)) (by omega) FX.out (by omega) (by omega) (by omega) (by omega)).mono ?_
      rintro e w3 ⟨rfl, c3⟩
      have b3 := (b2' _).trans (c3.mono (b2' _).size)
      have l3 := below_lies c3 (l2' _) (lies_lt (l2' _))
      have z3 := below_lies c3 (z2' _) (lies_lt (z2' _))
      have s3 := below_lies c3 (heap_alloc_new w2 _) (by simp)
      clear c3 b2' l2' z2'
      have HPX : Hid (putX l x.sd x.w x.h left right Y = if x.sd = 2 then roomB Y (endS Y x.h) l right - x.w else roomA Y (endS Y x.h) l left) := rfl
      have HOK := fun h => okAt_any (l := l) (wide := x.w) (high := x.h) (left := left) (right := right) (Y := Y) h
      have HRM := fun h => okAt_room (l := l) (wide := x.w) (high := x.h) (left := left) (right := right) (Y := Y) h
      generalize roomA Y (endS Y x.h) l left = A at ra0 ra1 HPX HRM
      generalize roomB Y (endS Y x.h) l right = B at rb0 rb1 HPX HRM
      have e0 : w3.cell? ⟨w2.heap.size, 0, none⟩ = some (.int .i64 Y) := cell_at s3 0 rfl
      have e1 : w3.cell? ⟨w2.heap.size, 1, none⟩ = some (.int .i64 (endS Y x.h)) := cell_at s3 1 rfl
      clear s3
      go_wp2_with fail
      refine (holdsAny_any Y (endS Y x.h) (some ⟨bb, off, none⟩) n cap l _ HN.out (HR.out.below b3) (by omega) FX.out).mono ?_
      rintro e w4 ⟨rfl, c4⟩
      have b4 := b3.trans (c4.mono b3.size)
      have l4 := below_lies c4 l3 (lies_lt l3)
      have z4 := below_lies c4 z3 (lies_lt z3)
      clear c4 b3 l3 z3 e0 e1
      have r0 : w4.cell? ⟨w.heap.size, 0, none⟩ = some (.int .i64 x.sd) := cell_at l4 0 rfl
      have r1 : w4.cell? ⟨w.heap.size, 1, none⟩ = some (.int .i64 x.x) := cell_at l4 1 rfl
      have r2 : w4.cell? ⟨w.heap.size, 2, none⟩ = some (.int .i64 Y) := cell_at l4 2 rfl
      have r3 : w4.cell? ⟨w.heap.size, 3, none⟩ = some (.int .i64 x.w) := cell_at l4 3 rfl
      have r4 : w4.cell? ⟨w.heap.size, 4, none⟩ = some (.int .i64 x.h) := cell_at l4 4 rfl
      have HL4 : Hid (w4.heap[w.heap.size]? = some (.cells #[.int .i64 x.sd, .int .i64 x.x, .int .i64 Y, .int .i64 x.w, .int .i64 x.h] 27 (0, 0))) := l4
      have HZ4 : Hid (w4.heap[w.heap.size + 1]? = some (.cells #[.int .i64 0, .int .i64 0, .int .i64 0, .int .i64 0, .int .i64 0] 27 (0, 0))) := z4
      have BS := fun (W : World) => beside_any ⟨x.sd, x.x, Y, x.w, x.h⟩ A B W (by omega) (by omega) hw0 hw1
      have FIN : okAt l x.w x.h left right Y = true → (#[.int .i64 x.sd, .int .i64 (besideX ⟨x.sd, x.x, Y, x.w, x.h⟩ A B), .int .i64 Y, .int .i64 x.w, .int .i64 x.h] : Array Value) = asC (putF l x.sd x.w x.h x.y left right) := fun hok => by
        rw [← atY_put (putAt_ok HP.out hok)]
        unfold atY
        rw [HPX.out]
        rfl
      have HFIN : Hid (okAt l x.w x.h left right Y = true → (#[.int .i64 x.sd, .int .i64 (besideX ⟨x.sd, x.x, Y, x.w, x.h⟩ A B), .int .i64 Y, .int .i64 x.w, .int .i64 x.h] : Array Value) = asC (putF l x.sd x.w x.h x.y left right)) := FIN
      clear l4 z4 FIN HPX
      rcases Bool.eq_false_or_eq_true (l.any (atB Y (endS Y x.h))) with ha | ha
      rotate_left
      · rw [ha]
        have hok : Hid (okAt l x.w x.h left right Y = true) := HOK ha
        clear ha HOK HRM
        go_wp2_with fail
        refine (BS _).mono ?_
        rintro e w5 ⟨rfl, c5⟩
        have b5 := b4.trans (c5.mono b4.size)
        have z5 := below_lies c5 HZ4.out (lies_lt HZ4.out)
        clear c5 b4 r0 r1 r2 r3 r4 HL4 HZ4 BS
        go_wp2_with ((with_reducible show wpList _ _ _ (⟨none, Op.store 27 (Operand.tmp 8) (Operand.tmp 51), _, _, _, _⟩ :: _) _ _); refine wpList_putA rfl _ _ _ rfl rfl (w.heap.size + 1) 0 5 [.int .i64 x.sd, .int .i64 (besideX ⟨x.sd, x.x, Y, x.w, x.h⟩ A B), .int .i64 Y, .int .i64 x.w, .int .i64 x.h] #[.int .i64 0, .int .i64 0, .int .i64 0, .int .i64 0, .int .i64 0] 27 rfl (by go_simp) z5 rfl (by kernel_rfl) (by kernel_rfl) (by kernel_rfl) ?_; intro w9 p9 l9 n9)
        exact bodyPost_ret (v := .agg (asC (putF l x.sd x.w x.h x.y left right))) (results_cell_row Try.results32 _ _ _ _ (asC (putF l x.sd x.w x.h x.y left right)) _ _ rfl (l9.trans (congrArg (fun c => some (Obj.cells c 27 (0, 0))) (HFIN.out hok.out))) Try.underlying27 rfl (by kernel_rfl)) rfl ⟨rfl, p9.below b5 (by omega)⟩
      rw [ha]
      have HRM' := HRM ha
      have F2 : IntKind.i64.wrap (B - A) = B - A := wrapA _ (by omega) (by omega)
      by_cases hw : x.w ≤ B - A
      · have hok : Hid (okAt l x.w x.h left right Y = true) := by show okAt l x.w x.h left right Y = true; rw [HRM', decide_eq_true hw]
        clear ha HRM' HOK HRM
        go_wp2_with fail
        refine (BS _).mono ?_
        rintro e w5 ⟨rfl, c5⟩
        have b5 := b4.trans (c5.mono b4.size)
        have z5 := below_lies c5 HZ4.out (lies_lt HZ4.out)
        clear c5 b4 r0 r1 r2 r3 r4 HL4 HZ4 BS
        go_wp2_with ((with_reducible show wpList _ _ _ (⟨none, Op.store 27 (Operand.tmp 8) (Operand.tmp 51), _, _, _, _⟩ :: _) _ _); refine wpList_putA rfl _ _ _ rfl rfl (w.heap.size + 1) 0 5 [.int .i64 x.sd, .int .i64 (besideX ⟨x.sd, x.x, Y, x.w, x.h⟩ A B), .int .i64 Y, .int .i64 x.w, .int .i64 x.h] #[.int .i64 0, .int .i64 0, .int .i64 0, .int .i64 0, .int .i64 0] 27 rfl (by go_simp) z5 rfl (by kernel_rfl) (by kernel_rfl) (by kernel_rfl) ?_; intro w9 p9 l9 n9)
        exact bodyPost_ret (v := .agg (asC (putF l x.sd x.w x.h x.y left right))) (results_cell_row Try.results32 _ _ _ _ (asC (putF l x.sd x.w x.h x.y left right)) _ _ rfl (l9.trans (congrArg (fun c => some (Obj.cells c 27 (0, 0))) (HFIN.out hok.out))) Try.underlying27 rfl (by kernel_rfl)) rfl ⟨rfl, p9.below b5 (by omega)⟩
      have hok : Hid (okAt l x.w x.h left right Y = false) := by show okAt l x.w x.h left right Y = false; rw [HRM', decide_eq_false hw]
      clear ha HRM' HRM HOK HFIN BS
      go_wp2_with fail
      refine (nextBottom_any (some ⟨bb, off, none⟩) n cap l Y _ HN.out (HR.out.below b4) (by omega) FX.out).mono ?_
      rintro e w5 ⟨rfl, c5⟩
      have b5 := b4.trans (c5.mono b4.size)
      have l5 := below_lies c5 HL4.out (lies_lt HL4.out)
      have z5 := below_lies c5 HZ4.out (lies_lt HZ4.out)
      obtain ⟨p5, m5⟩ := putAt_next HX.out HP.out hok.out
      have HP5 : Hid (PutAt l x.w x.h left right x.y (nextN l Y) (f - 1)) := p5
      have HM5 : Hid ((nextL l (nextN l Y)).length < (nextL l Y).length) := m5
      clear c5 b4 p5 m5 r0 r1 r2 r3 r4 HL4 HZ4 hok
      go_wp2_with ((with_reducible show wpList _ _ _ (⟨none, Op.store 3 (Operand.tmp 59) (Operand.tmp 57), _, _, _, _⟩ :: _) _ _); refine wpList_putA rfl _ _ _ rfl rfl w.heap.size 2 5 [.int .i64 (nextN l Y)] #[.int .i64 x.sd, .int .i64 x.x, .int .i64 Y, .int .i64 x.w, .int .i64 x.h] 27 rfl (by go_simp) l5 rfl (by kernel_rfl) (by kernel_rfl) (by kernel_rfl) ?_; intro w9 p9 l9 n9)
      have HY9 : Hid (yIn w.heap.size w9 = nextN l Y) := yIn_of (cell_at l9 2 rfl)
      have z9 : w9.heap[w.heap.size + 1]? = some (.cells #[.int .i64 0, .int .i64 0, .int .i64 0, .int .i64 0, .int .i64 0] 27 (0, 0)) := p9.lies z5 (by omega)
      have b9 : Below w.heap.size w w9 := p9.below b5 (Nat.le_refl _)
      go_roundw
      case rel => exact ⟨_, _, HP5.out, l9, z9, b9⟩
      case measure => rw [HY9.out, HYI.out]; exact HM5.out
set_option maxHeartbeats 16000000 in
theorem placed_none (l : List Asd) (x : Asd) (left right : Int) (w : World) (hn : 0 = l.length) (hr : AsRow w none l) (hl : (0 : Nat) ≤ 1000) (hx : ∀ x ∈ l, goodA x = true)
    (hw0 : 0 ≤ x.w) (hw1 : x.w ≤ 1000000) (hh0 : 0 ≤ x.h) (hh1 : x.h ≤ 1000000) (hy0 : -100000000 ≤ x.y) (hy1 : x.y ≤ 100000000) (hl0 : -100000000 ≤ left) (hl1 : left ≤ 100000000) (hr0 : -100000000 ≤ right) (hr1 : right ≤ 100000000) :
    Calls Try.prog 32 #[.slice none 0 0, .agg #[.int .i64 x.sd, .int .i64 x.x, .int .i64 x.y, .int .i64 x.w, .int .i64 x.h], .int .i64 left, .int .i64 right] w fun e w' => e = .returned (.agg (asC (putF l x.sd x.w x.h x.y left right))) ∧ Below w.heap.size w w' := by
  obtain ⟨i0, hi, hz0, hz1, hz2⟩ := info_parts infoAside
  have HN : Hid (0 = l.length) := hn
  have HR : Hid (AsRow w none l) := hr
  have HX : Hid (∀ x ∈ l, goodA x = true) := hx
  have FX : Hid (∀ x ∈ l, Fine x) := fun x hm => goodA_fine (hx x hm)
  have hfl : (flatA l).length = 0 * 5 := by rw [flatA_len, hn]
  have HOW : Hid (∀ (W : World), Below w.heap.size w W → ∀ (b : Addr), (none : Option Addr) = some b → ∀ j u, (flatA l)[j]? = some u → W.cell? (b.add j) = some u) := fun W hW b hb j u hj => by
    obtain ⟨i, z, c, hz, hc, rfl⟩ := flatA_in hj
    obtain ⟨b', off', e, hh⟩ := as_some (hr.below hW) hz
    rw [hb] at e
    simp only [Option.some.injEq] at e
    subst e
    rw [Addr.add_lit]
    exact row_cells hh _ u hj
  have l00 : ((((w.alloc (.cells #[.int .i64 x.sd, .int .i64 x.x, .int .i64 x.y, .int .i64 x.w, .int .i64 x.h] 27)).alloc (.cells #[.int .i64 0, .int .i64 0, .int .i64 0, .int .i64 0, .int .i64 0] 27)).alloc (.cells #[.int .i64 x.sd, .int .i64 x.x, .int .i64 x.y, .int .i64 x.w, .int .i64 x.h] 27)).heap[w.heap.size]?) = some (.cells #[.int .i64 x.sd, .int .i64 x.x, .int .i64 x.y, .int .i64 x.w, .int .i64 x.h] 27 (0, 0)) := heap_in (heap_in (heap_alloc_new w _))
  have z00 : ((((w.alloc (.cells #[.int .i64 x.sd, .int .i64 x.x, .int .i64 x.y, .int .i64 x.w, .int .i64 x.h] 27)).alloc (.cells #[.int .i64 0, .int .i64 0, .int .i64 0, .int .i64 0, .int .i64 0] 27)).alloc (.cells #[.int .i64 x.sd, .int .i64 x.x, .int .i64 x.y, .int .i64 x.w, .int .i64 x.h] 27)).heap[w.heap.size + 1]?) = some (.cells #[.int .i64 0, .int .i64 0, .int .i64 0, .int .i64 0, .int .i64 0] 27 (0, 0)) := heap_in (heap_at _ _ _ (by simp))
  have b00 : Below w.heap.size w (((w.alloc (.cells #[.int .i64 x.sd, .int .i64 x.x, .int .i64 x.y, .int .i64 x.w, .int .i64 x.h] 27)).alloc (.cells #[.int .i64 0, .int .i64 0, .int .i64 0, .int .i64 0, .int .i64 0] 27)).alloc (.cells #[.int .i64 x.sd, .int .i64 x.x, .int .i64 x.y, .int .i64 x.w, .int .i64 x.h] 27)) := (((Below.refl _ _).alloc (Nat.le_refl _) _).alloc (by simp) _).alloc (by simp; omega) _
  have fz0 : ∀ j, ((w.alloc (.cells #[.int .i64 x.sd, .int .i64 x.x, .int .i64 x.y, .int .i64 x.w, .int .i64 x.h] 27)).alloc (.cells #[.int .i64 0, .int .i64 0, .int .i64 0, .int .i64 0, .int .i64 0] 27)).frozen? ⟨w.heap.size, j, none⟩ = false := fun j => by simp
  have HY : Hid (mx topx l x.y = begY l x.y) := rfl
  clear hn hr hx
  go_enter Try.func32, Try.ntmps32
  go_wp2_with fail
  go_region_law (first
    | (refine step_append_grows (by rfl) _ _ 23 (by rfl) 27 i0 _ 5 40 Try.underlying23 hi hz0 hz1 hz2 rfl (by decide) none 0 0 (flatA l) (by rfl) (fun _ => ⟨rfl, rfl⟩) hfl (HOW.out _ (by repeat (first | exact Below.refl _ _ | refine Below.drew ?_ | refine Below.alloc ?_ (by first | (simp; done) | (simp; omega)) _))) ⟨w.heap.size + 2, 0, none⟩ 1 1 (asL x) (by rfl) (by rfl) (fun j u hj => five_cells ((w.alloc (.cells #[.int .i64 x.sd, .int .i64 x.x, .int .i64 x.y, .int .i64 x.w, .int .i64 x.h] 27)).alloc (.cells #[.int .i64 0, .int .i64 0, .int .i64 0, .int .i64 0, .int .i64 0] 27)) x _ _ (by simp) j u hj) (asL_one x) (by omega) (by unfold maxLen; omega) (by omega) ?_; intro v4 w4 hown4 hgrow4; obtain ⟨g4, c4, rfl, hc4, r4, hB4, hlt4⟩ := own_row (ns := l ++ [x]) (by rw [flatA_snoc]; exact hown4) (by simp [HN.out]) (by omega); have l4 : w4.heap[w.heap.size]? = some (.cells #[.int .i64 x.sd, .int .i64 x.x, .int .i64 x.y, .int .i64 x.w, .int .i64 x.h] 27 (0, 0)) := (hgrow4.block w.heap.size (by simp; omega) (by simp)).trans l00; have z4 : w4.heap[w.heap.size + 1]? = some (.cells #[.int .i64 0, .int .i64 0, .int .i64 0, .int .i64 0, .int .i64 0] 27 (0, 0)) := (hgrow4.block (w.heap.size + 1) (by simp) (by simp)).trans z00; have b4 : Below w.heap.size w w4 := Below.grown (w := ((w.alloc (.cells #[.int .i64 x.sd, .int .i64 x.x, .int .i64 x.y, .int .i64 x.w, .int .i64 x.h] 27)).alloc (.cells #[.int .i64 0, .int .i64 0, .int .i64 0, .int .i64 0, .int .i64 0] 27)).alloc (.cells #[.int .i64 x.sd, .int .i64 x.x, .int .i64 x.y, .int .i64 x.w, .int .i64 x.h] 27)) b00 ⟨hgrow4.os, hgrow4.tape, hgrow4.output, hgrow4.size, hgrow4.block⟩ (by simp; omega) (fun k hk => by cases hk))
    | (go_simp; refine (greatest_row 51 (enters_of Try.func51 (by kernel_rfl) rfl) topx g4 0 (1) c4 l x w4 (by rw [← HN.out]) r4 (by omega) hc4 (fun x W hm => topOf_b x W)).mono ?_; rintro e w5 ⟨rfl, c5⟩; have l5 := below_lies c5 l4 (lies_lt l4); have z5 := below_lies c5 z4 (lies_lt z4); have b5 := b4.trans (c5.mono b4.size); have q2 : w5.cell? ⟨w.heap.size, 2, none⟩ = some (.int .i64 x.y) := cell_at l5 2 rfl; have fz2 : w5.frozen? ⟨w.heap.size, 2, none⟩ = false := Lib.frozen_of_heap l5 2; go_wp2_with fail)
    | fail)
  all_goals
    have l6 : (w5.setCell ⟨w.heap.size, 2, none⟩ (.int .i64 (mx topx l (topx x)))).heap[w.heap.size]? = some (.cells #[.int .i64 x.sd, .int .i64 x.x, .int .i64 (begY l x.y), .int .i64 x.w, .int .i64 x.h] 27 (0, 0)) := heap_setCell_same w5 w.heap.size 2 _ _ _ l5
    have z6 : (w5.setCell ⟨w.heap.size, 2, none⟩ (.int .i64 (mx topx l (topx x)))).heap[w.heap.size + 1]? = some (.cells #[.int .i64 0, .int .i64 0, .int .i64 0, .int .i64 0, .int .i64 0] 27 (0, 0)) := (Below.heap_setCell w5 ⟨w.heap.size, 2, none⟩ _ (w.heap.size + 1) (by simp)).trans z5
    have b6 : Below w.heap.size w (w5.setCell ⟨w.heap.size, 2, none⟩ (.int .i64 (mx topx l (topx x)))) := b5.setCell (Nat.le_refl _) _
    clear l5 z5 b5 q2 fz2 c5 l4 z4 b4 r4 hgrow4 hown4 hc4 hB4 hlt4 l00 z00 b00 fz0 HOW hfl hi hz0 hz1 hz2 HY
    generalize World.setCell w5 _ _ = w6 at l6 z6 b6 ⊢
    have ST := putAt_start (wide := x.w) (high := x.h) (left := left) (right := right) HX.out hy0 hy1
    have HST : Hid (PutAt l x.w x.h left right x.y (begY l x.y) (l.length + 1)) := ST
    have HL6 : Hid (w6.heap[w.heap.size]? = some (.cells #[.int .i64 x.sd, .int .i64 x.x, .int .i64 (begY l x.y), .int .i64 x.w, .int .i64 x.h] 27 (0, 0))) := l6
    have HZ6 : Hid (w6.heap[w.heap.size + 1]? = some (.cells #[.int .i64 0, .int .i64 0, .int .i64 0, .int .i64 0, .int .i64 0] 27 (0, 0))) := z6
    have HB6 : Hid (Below w.heap.size w w6) := b6
    clear ST l6 z6 b6
    go_wp2_with fail
    go_loopw [9] (fun _ wr => ∃ (Y : Int) (f : Nat), PutAt l x.w x.h left right x.y Y f ∧ wr.heap[w.heap.size]? = some (.cells #[.int .i64 x.sd, .int .i64 x.x, .int .i64 Y, .int .i64 x.w, .int .i64 x.h] 27 (0, 0)) ∧ wr.heap[w.heap.size + 1]? = some (.cells #[.int .i64 0, .int .i64 0, .int .i64 0, .int .i64 0, .int .i64 0] 27 (0, 0)) ∧ Below w.heap.size w wr) (fun _ wr => (nextL l (yIn w.heap.size wr)).length)
    case atStart => exact ⟨_, _, HST.out, HL6.out, HZ6.out, HB6.out⟩
    case round =>
      clear HL6 HZ6 HB6 HST
      obtain ⟨Y, f, hp, hl2, hz2', hbw⟩ := hrel
      have HP : Hid (PutAt l x.w x.h left right x.y Y f) := hp
      have y0 := hp.lo
      have y1 := hp.hi
      obtain ⟨⟨ra0, ra1⟩, ⟨rb0, rb1⟩⟩ := room_bds HX.out hl0 hl1 hr0 hr1 Y (endS Y x.h)
      have HYI : Hid (yIn w.heap.size wr = Y) := yIn_of (cell_at hl2 2 rfl)
      have q2 : wr.cell? ⟨w.heap.size, 2, none⟩ = some (.int .i64 Y) := cell_at hl2 2 rfl
      have q4 : wr.cell? ⟨w.heap.size, 4, none⟩ = some (.int .i64 x.h) := cell_at hl2 4 rfl
      clear hp
      go_wp2_with fail
      refine (stretchOf_any Y x.h _ (by omega) (by omega) (by omega) (by omega)).mono ?_
      rintro e w2 ⟨rfl, c2⟩
      have b2 := hbw.trans (c2.mono hbw.size)
      have l2 := below_lies c2 hl2 (lies_lt hl2)
      have z2 := below_lies c2 hz2' (lies_lt hz2')
      have b2' : ∀ o, Below w.heap.size w (w2.alloc o) := fun o => b2.alloc b2.size _
      have l2' : ∀ o, (w2.alloc o).heap[w.heap.size]? = some (.cells #[.int .i64 x.sd, .int .i64 x.x, .int .i64 Y, .int .i64 x.w, .int .i64 x.h] 27 (0, 0)) := fun o => heap_in l2
      have z2' : ∀ o, (w2.alloc o).heap[w.heap.size + 1]? = some (.cells #[.int .i64 0, .int .i64 0, .int .i64 0, .int .i64 0, .int .i64 0] 27 (0, 0)) := fun o => heap_in z2
      clear c2 hbw hl2 hz2' q2 q4 b2 l2 z2
      go_wp2_with fail
      refine (roomIn_any Y (endS Y x.h) none 0 0 l left right _ HN.out (HR.out.below (b2' _)) (by omega) FX.out (by omega) (by omega) (by omega) (by omega)).mono ?_
      rintro e w3 ⟨rfl, c3⟩
      have b3 := (b2' _).trans (c3.mono (b2' _).size)
      have l3 := below_lies c3 (l2' _) (lies_lt (l2' _))
      have z3 := below_lies c3 (z2' _) (lies_lt (z2' _))
      have s3 := below_lies c3 (heap_alloc_new w2 _) (by simp)
      clear c3 b2' l2' z2'
      have HPX : Hid (putX l x.sd x.w x.h left right Y = if x.sd = 2 then roomB Y (endS Y x.h) l right - x.w else roomA Y (endS Y x.h) l left) := rfl
      have HOK := fun h => okAt_any (l := l) (wide := x.w) (high := x.h) (left := left) (right := right) (Y := Y) h
      have HRM := fun h => okAt_room (l := l) (wide := x.w) (high := x.h) (left := left) (right := right) (Y := Y) h
      generalize roomA Y (endS Y x.h) l left = A at ra0 ra1 HPX HRM
      generalize roomB Y (endS Y x.h) l right = B at rb0 rb1 HPX HRM
      have e0 : w3.cell? ⟨w2.heap.size, 0, none⟩ = some (.int .i64 Y) := cell_at s3 0 rfl
      have e1 : w3.cell? ⟨w2.heap.size, 1, none⟩ = some (.int .i64 (endS Y x.h)) := cell_at s3 1 rfl
      clear s3
      go_wp2_with fail
      refine (holdsAny_any Y (endS Y x.h) none 0 0 l _ HN.out (HR.out.below b3) (by omega) FX.out).mono ?_
      rintro e w4 ⟨rfl, c4⟩
      have b4 := b3.trans (c4.mono b3.size)
      have l4 := below_lies c4 l3 (lies_lt l3)
      have z4 := below_lies c4 z3 (lies_lt z3)
      clear c4 b3 l3 z3 e0 e1
      have r0 : w4.cell? ⟨w.heap.size, 0, none⟩ = some (.int .i64 x.sd) := cell_at l4 0 rfl
      have r1 : w4.cell? ⟨w.heap.size, 1, none⟩ = some (.int .i64 x.x) := cell_at l4 1 rfl
      have r2 : w4.cell? ⟨w.heap.size, 2, none⟩ = some (.int .i64 Y) := cell_at l4 2 rfl
      have r3 : w4.cell? ⟨w.heap.size, 3, none⟩ = some (.int .i64 x.w) := cell_at l4 3 rfl
      have r4 : w4.cell? ⟨w.heap.size, 4, none⟩ = some (.int .i64 x.h) := cell_at l4 4 rfl
      have HL4 : Hid (w4.heap[w.heap.size]? = some (.cells #[.int .i64 x.sd, .int .i64 x.x, .int .i64 Y, .int .i64 x.w, .int .i64 x.h] 27 (0, 0))) := l4
      have HZ4 : Hid (w4.heap[w.heap.size + 1]? = some (.cells #[.int .i64 0, .int .i64 0, .int .i64 0, .int .i64 0, .int .i64 0] 27 (0, 0))) := z4
      have BS := fun (W : World) => beside_any ⟨x.sd, x.x, Y, x.w, x.h⟩ A B W (by omega) (by omega) hw0 hw1
      have FIN : okAt l x.w x.h left right Y = true → (#[.int .i64 x.sd, .int .i64 (besideX ⟨x.sd, x.x, Y, x.w, x.h⟩ A B), .int .i64 Y, .int .i64 x.w, .int .i64 x.h] : Array Value) = asC (putF l x.sd x.w x.h x.y left right) := fun hok => by
        rw [← atY_put (putAt_ok HP.out hok)]
        unfold atY
        rw [HPX.out]
        rfl
      have HFIN : Hid (okAt l x.w x.h left right Y = true → (#[.int .i64 x.sd, .int .i64 (besideX ⟨x.sd, x.x, Y, x.w, x.h⟩ A B), .int .i64 Y, .int .i64 x.w, .int .i64 x.h] : Array Value) = asC (putF l x.sd x.w x.h x.y left right)) := FIN
      clear l4 z4 FIN HPX
      rcases Bool.eq_false_or_eq_true (l.any (atB Y (endS Y x.h))) with ha | ha
      rotate_left
      · rw [ha]
        have hok : Hid (okAt l x.w x.h left right Y = true) := HOK ha
        clear ha HOK HRM
        go_wp2_with fail
        refine (BS _).mono ?_
        rintro e w5 ⟨rfl, c5⟩
        have b5 := b4.trans (c5.mono b4.size)
        have z5 := below_lies c5 HZ4.out (lies_lt HZ4.out)
        clear c5 b4 r0 r1 r2 r3 r4 HL4 HZ4 BS
        go_wp2_with ((with_reducible show wpList _ _ _ (⟨none, Op.store 27 (Operand.tmp 8) (Operand.tmp 51), _, _, _, _⟩ :: _) _ _); refine wpList_putA rfl _ _ _ rfl rfl (w.heap.size + 1) 0 5 [.int .i64 x.sd, .int .i64 (besideX ⟨x.sd, x.x, Y, x.w, x.h⟩ A B), .int .i64 Y, .int .i64 x.w, .int .i64 x.h] #[.int .i64 0, .int .i64 0, .int .i64 0, .int .i64 0, .int .i64 0] 27 rfl (by go_simp) z5 rfl (by kernel_rfl) (by kernel_rfl) (by kernel_rfl) ?_; intro w9 p9 l9 n9)
        exact bodyPost_ret (v := .agg (asC (putF l x.sd x.w x.h x.y left right))) (results_cell_row Try.results32 _ _ _ _ (asC (putF l x.sd x.w x.h x.y left right)) _ _ rfl (l9.trans (congrArg (fun c => some (Obj.cells c 27 (0, 0))) (HFIN.out hok.out))) Try.underlying27 rfl (by kernel_rfl)) rfl ⟨rfl, p9.below b5 (by omega)⟩
      rw [ha]
      have HRM' := HRM ha
      have F2 : IntKind.i64.wrap (B - A) = B - A := wrapA _ (by omega) (by omega)
      by_cases hw : x.w ≤ B - A
      · have hok : Hid (okAt l x.w x.h left right Y = true) := by show okAt l x.w x.h left right Y = true; rw [HRM', decide_eq_true hw]
        clear ha HRM' HOK HRM
        go_wp2_with fail
        refine (BS _).mono ?_
        rintro e w5 ⟨rfl, c5⟩
        have b5 := b4.trans (c5.mono b4.size)
        have z5 := below_lies c5 HZ4.out (lies_lt HZ4.out)
        clear c5 b4 r0 r1 r2 r3 r4 HL4 HZ4 BS
        go_wp2_with ((with_reducible show wpList _ _ _ (⟨none, Op.store 27 (Operand.tmp 8) (Operand.tmp 51), _, _, _, _⟩ :: _) _ _); refine wpList_putA rfl _ _ _ rfl rfl (w.heap.size + 1) 0 5 [.int .i64 x.sd, .int .i64 (besideX ⟨x.sd, x.x, Y, x.w, x.h⟩ A B), .int .i64 Y, .int .i64 x.w, .int .i64 x.h] #[.int .i64 0, .int .i64 0, .int .i64 0, .int .i64 0, .int .i64 0] 27 rfl (by go_simp) z5 rfl (by kernel_rfl) (by kernel_rfl) (by kernel_rfl) ?_; intro w9 p9 l9 n9)
        exact bodyPost_ret (v := .agg (asC (putF l x.sd x.w x.h x.y left right))) (results_cell_row Try.results32 _ _ _ _ (asC (putF l x.sd x.w x.h x.y left right)) _ _ rfl (l9.trans (congrArg (fun c => some (Obj.cells c 27 (0, 0))) (HFIN.out hok.out))) Try.underlying27 rfl (by kernel_rfl)) rfl ⟨rfl, p9.below b5 (by omega)⟩
      have hok : Hid (okAt l x.w x.h left right Y = false) := by show okAt l x.w x.h left right Y = false; rw [HRM', decide_eq_false hw]
      clear ha HRM' HRM HOK HFIN BS
      go_wp2_with fail
      refine (nextBottom_any none 0 0 l Y _ HN.out (HR.out.below b4) (by omega) FX.out).mono ?_
      rintro e w5 ⟨rfl, c5⟩
      have b5 := b4.trans (c5.mono b4.size)
      have l5 := below_lies c5 HL4.out (lies_lt HL4.out)
      have z5 := below_lies c5 HZ4.out (lies_lt HZ4.out)
      obtain ⟨p5, m5⟩ := putAt_next HX.out HP.out hok.out
      have HP5 : Hid (PutAt l x.w x.h left right x.y (nextN l Y) (f - 1)) := p5
      have HM5 : Hid ((nextL l (nextN l Y)).length < (nextL l Y).length) := m5
      clear c5 b4 p5 m5 r0 r1 r2 r3 r4 HL4 HZ4 hok
      go_wp2_with ((with_reducible show wpList _ _ _ (⟨none, Op.store 3 (Operand.tmp 59) (Operand.tmp 57), _, _, _, _⟩ :: _) _ _); refine wpList_putA rfl _ _ _ rfl rfl w.heap.size 2 5 [.int .i64 (nextN l Y)] #[.int .i64 x.sd, .int .i64 x.x, .int .i64 Y, .int .i64 x.w, .int .i64 x.h] 27 rfl (by go_simp) l5 rfl (by kernel_rfl) (by kernel_rfl) (by kernel_rfl) ?_; intro w9 p9 l9 n9)
      have HY9 : Hid (yIn w.heap.size w9 = nextN l Y) := yIn_of (cell_at l9 2 rfl)
      have z9 : w9.heap[w.heap.size + 1]? = some (.cells #[.int .i64 0, .int .i64 0, .int .i64 0, .int .i64 0, .int .i64 0] 27 (0, 0)) := p9.lies z5 (by omega)
      have b9 : Below w.heap.size w w9 := p9.below b5 (Nat.le_refl _)
      go_roundw
      case rel => exact ⟨_, _, HP5.out, l9, z9, b9⟩
      case measure => rw [HY9.out, HYI.out]; exact HM5.out
/-- How a slice that is handed on looks. -/
def Handed (a : Option Addr) (n cap : Nat) : Prop := (a = none ∧ n = 0 ∧ cap = 0) ∨ (n ≤ cap ∧ ∃ b off, a = some ⟨b, off, none⟩)
theorem placed_any (a : Option Addr) (n cap : Nat) (l : List Asd) (x : Asd) (left right : Int) (w : World) (ha : Handed a n cap) (hn : n = l.length) (hr : AsRow w a l) (hl : n ≤ 1000) (hx : ∀ x ∈ l, goodA x = true)
    (hw0 : 0 ≤ x.w) (hw1 : x.w ≤ 1000000) (hh0 : 0 ≤ x.h) (hh1 : x.h ≤ 1000000) (hy0 : -100000000 ≤ x.y) (hy1 : x.y ≤ 100000000) (hl0 : -100000000 ≤ left) (hl1 : left ≤ 100000000) (hr0 : -100000000 ≤ right) (hr1 : right ≤ 100000000) :
    Calls Try.prog 32 #[.slice a n cap, .agg #[.int .i64 x.sd, .int .i64 x.x, .int .i64 x.y, .int .i64 x.w, .int .i64 x.h], .int .i64 left, .int .i64 right] w fun e w' => e = .returned (.agg (asC (putF l x.sd x.w x.h x.y left right))) ∧ Below w.heap.size w w' := by
  rcases ha with ⟨rfl, h1, h2⟩ | ⟨h1, b, off, rfl⟩
  · subst h1 h2
    exact placed_none l x left right w hn hr hl hx hw0 hw1 hh0 hh1 hy0 hy1 hl0 hl1 hr0 hr1
  · exact placed_some b off n cap l x left right w hn hr hl h1 hx hw0 hw1 hh0 hh1 hy0 hy1 hl0 hl1 hr0 hr1
end Go.Proofs.Ytngbkcihdbnlgaa
