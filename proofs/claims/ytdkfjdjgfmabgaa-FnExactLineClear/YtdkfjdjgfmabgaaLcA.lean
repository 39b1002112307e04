/-
  LineClear: of the model and of the program, for every row of floats and every line.
-/
import Derived.Test.YtdkfjdjgfmabgaaAfN
import Derived.Test.YtdkfjdjgfmabgaaLnP
namespace Go.Proofs.Ytdkfjdjgfmabgaa
open Go.ChangeShapes Go.WideShapes Go.ChangeAt Go.RowKit
set_option linter.unusedVariables false

/-- A line's place, as a float has one. -/
def asOf (x : Ln) : Asd := ⟨0, x.x, x.y, x.w, x.h⟩
def lcOk (l : List Asd) (x : Ln) : Bool := goodF l && nearB x.x && nearB x.y && extB x.w && extB x.h
def lcR (l : List Asd) (x : Ln) : Bool := lcOk l x && !(l.any (meetB (asOf x)))
theorem asOf_fine {x : Ln} (h0 : nearB x.x = true) (h1 : nearB x.y = true) (h2 : extB x.w = true) (h3 : extB x.h = true) : Fine (asOf x) := by
  have a0 := inB_yes h0
  have a1 := inB_yes h1
  have a2 := inB_yes h2
  have a3 := inB_yes h3
  exact ⟨Int.le_trans (by decide) a0.1, Int.le_trans a0.2 (by decide), Int.le_trans (by decide) a1.1, Int.le_trans a1.2 (by decide), a2.1, a2.2, a3.1, a3.2⟩
theorem meet_symm (x z : Asd) : meetB x z = meetB z x := by
  unfold meetB
  rw [Int.min_comm (x.x + x.w), Int.max_comm x.x, Int.min_comm (x.y + x.h), Int.max_comm x.y]
theorem keepL6 {w w' : World} {g : Nat} {x : Ln} {t : TypeId} {fr : Nat × Nat} (hb : Below w.heap.size w w') (h : w.heap[g]? = some (.cells #[.int .i64 x.bx, .int .i64 x.x, .int .i64 x.y, .int .i64 x.w, .int .i64 x.h, .string x.tx] t fr)) :
    w'.cell? ⟨g, 0, none⟩ = some (.int .i64 x.bx) ∧ w'.cell? ⟨g, 1, none⟩ = some (.int .i64 x.x) ∧ w'.cell? ⟨g, 2, none⟩ = some (.int .i64 x.y) ∧ w'.cell? ⟨g, 3, none⟩ = some (.int .i64 x.w) ∧ w'.cell? ⟨g, 4, none⟩ = some (.int .i64 x.h) ∧ w'.cell? ⟨g, 5, none⟩ = some (.string x.tx) := by
  have l := below_lies hb h (lies_lt h)
  exact ⟨cell_at l 0 rfl, cell_at l 1 rfl, cell_at l 2 rfl, cell_at l 3 rfl, cell_at l 4 rfl, cell_at l 5 rfl⟩

set_option maxHeartbeats 8000000 in
theorem l8Clear_any (a : Option Addr) (n cap : Nat) (l : List Asd) (x : Ln) (w : World) (hn : n = l.length) (hr : AsRow w a l) (hl : n ≤ 1048576) (hf : ∀ z ∈ l, Fine z) (hx : Fine (asOf x)) :
    Calls Try.prog 20 #[.slice a n cap, .agg #[.int .i64 x.bx, .int .i64 x.x, .int .i64 x.y, .int .i64 x.w, .int .i64 x.h, .string x.tx]] w fun e w' => e = .returned (.bool (!(l.any (meetB (asOf x))))) ∧ Below w.heap.size w w' := by
  have HN : Hid (n = l.length) := hn
  have HR : Hid (AsRow w a l) := hr
  have HF : Hid (∀ z ∈ l, Fine z) := hf
  have l0 := heap_alloc_new w (.cells #[.int .i64 x.bx, .int .i64 x.x, .int .i64 x.y, .int .i64 x.w, .int .i64 x.h, .string x.tx] 31)
  have b0 : Below w.heap.size w (w.alloc (.cells #[.int .i64 x.bx, .int .i64 x.x, .int .i64 x.y, .int .i64 x.w, .int .i64 x.h, .string x.tx] 31)) := (Below.refl _ _).alloc (Nat.le_refl _) _
  clear hn hr hf
  go_enter Try.func20, Try.ntmps20
  go_wp2_with fail
  go_loopw [9] (fun i wr => ∃ k : Nat, k ≤ n ∧ i = .int .i64 k ∧ (∀ (i : Nat) (y : Asd), i < k → l[i]? = some y → meetB (asOf x) y = false) ∧ wr.heap[w.heap.size]? = some (.cells #[.int .i64 x.bx, .int .i64 x.x, .int .i64 x.y, .int .i64 x.w, .int .i64 x.h, .string x.tx] 31 (0, 0)) ∧ Below w.heap.size w wr) (fun i _ => n - (intOf i).toNat)
  case atStart => exact ⟨0, Nat.zero_le _, rfl, fun i x hi => absurd hi (by omega), l0, b0⟩
  case round =>
    obtain ⟨k, hk, rfl, hp, hl2, hbw⟩ := hrel
    have HP : Hid (∀ (i : Nat) (y : Asd), i < k → l[i]? = some y → meetB (asOf x) y = false) := hp
    clear hp l0 b0
    by_cases hlt : k < n
    rotate_left
    · have HY : Hid (l.any (meetB (asOf x)) = false) := any_no fun i y hi hy => HP.out i y (by have := HN.out; omega) hy
      clear hl2
      go_wp2
      go_ret
      exact ⟨ret_bool (by rw [HY.out]; rfl), hbw⟩
    obtain ⟨z, hz⟩ : ∃ z, l[k]? = some z := ⟨_, List.getElem?_eq_getElem (by have := HN.out; omega)⟩
    obtain ⟨b, off, rfl, hc⟩ := as_some HR.out hz
    have hr := as_below (hc k z hz) hbw (as_lt (hc k z hz))
    obtain ⟨q0, q1, q2, q3, q4⟩ := as_cells hr
    have HZ : Hid (l[k]? = some z) := hz
    have FZ := HF.out z (List.mem_of_getElem? hz)
    obtain ⟨r0, r1, r2, r3, r4, r5⟩ := keepL6 (x := x) ((Below.refl wr.heap.size wr).alloc (Nat.le_refl _) (.cells #[.int .i64 z.sd, .int .i64 z.x, .int .i64 z.y, .int .i64 z.w, .int .i64 z.h] 47)) hl2
    have l3 := below_lies ((Below.refl wr.heap.size wr).alloc (Nat.le_refl _) (.cells #[.int .i64 z.sd, .int .i64 z.x, .int .i64 z.y, .int .i64 z.w, .int .i64 z.h] 47)) hl2 (lies_lt hl2)
    have b3 : Below w.heap.size w (wr.alloc (.cells #[.int .i64 z.sd, .int .i64 z.x, .int .i64 z.y, .int .i64 z.w, .int .i64 z.h] 47)) := hbw.alloc hbw.size _
    have HL3 : Hid _ := l3
    have HB3 : Hid (Below w.heap.size w (wr.alloc (.cells #[.int .i64 z.sd, .int .i64 z.x, .int .i64 z.y, .int .i64 z.w, .int .i64 z.h] 47))) := b3
    have hge := lies_lt hl2
    have LM : ∀ W, Calls Try.prog 33 #[.agg #[.int .i64 z.sd, .int .i64 z.x, .int .i64 z.y, .int .i64 z.w, .int .i64 z.h], .agg #[.int .i64 0, .int .i64 x.x, .int .i64 x.y, .int .i64 x.w, .int .i64 x.h]] W fun e w' => e = .returned (.bool (meetB z (asOf x))) ∧ Below W.heap.size W w' := fun W => l7Meet_any z (asOf x) W FZ hx
    rw [meet_symm z (asOf x)] at LM
    clear hz hr l3 b3 hl2 hbw hc
    go_wp2_with fail
    refine (LM _).mono ?_
    rintro e w3 ⟨rfl, hb⟩
    have l4 := below_lies hb HL3.out (lies_lt HL3.out)
    have b4 := HB3.out.trans (hb.mono HB3.out.size)
    clear hb HL3 HB3 q0 q1 q2 q3 q4 r0 r1 r2 r3 r4 r5 FZ LM
    rcases Bool.eq_false_or_eq_true (meetB (asOf x) z) with hm | hm
    · rw [hm]
      have HY : Hid (l.any (meetB (asOf x)) = true) := any_yes HZ.out hm
      clear hm l4
      go_wp2
      go_ret
      exact ⟨ret_bool (by rw [HY.out]; rfl), b4⟩
    · rw [hm]
      go_wp2
      go_roundw
      case rel => exact ⟨k + 1, by omega, by go_num, step_none (p := meetB (asOf x)) HZ.out hm HP.out, l4, b4⟩
      case measure => simp [intOf]; omega

set_option maxHeartbeats 8000000 in
theorem implClear_any (a : Option Addr) (n cap : Nat) (l : List Asd) (x : Ln) (w : World) (hn : n = l.length) (hr : AsRow w a l) (hl : n ≤ 1048576) :
    Calls Try.prog 10 #[.slice a n cap, .agg #[.int .i64 x.bx, .int .i64 x.x, .int .i64 x.y, .int .i64 x.w, .int .i64 x.h, .string x.tx]] w fun e w' => e = .returned (.tuple #[.bool (lcR l x), .bool (lcOk l x)]) ∧ Below w.heap.size w w' := by
  have G := fun (W : World) (h : Below w.heap.size w W) => implGoodF_any a n cap l W hn (hr.below h) hl
  have HL0 : Hid ((w.alloc (.cells #[.int .i64 x.bx, .int .i64 x.x, .int .i64 x.y, .int .i64 x.w, .int .i64 x.h, .string x.tx] 31)).heap[w.heap.size]? = some (.cells #[.int .i64 x.bx, .int .i64 x.x, .int .i64 x.y, .int .i64 x.w, .int .i64 x.h, .string x.tx] 31 (0, 0))) := heap_alloc_new w (.cells #[.int .i64 x.bx, .int .i64 x.x, .int .i64 x.y, .int .i64 x.w, .int .i64 x.h, .string x.tx] 31)
  have HB0 : Hid (Below w.heap.size w (w.alloc (.cells #[.int .i64 x.bx, .int .i64 x.x, .int .i64 x.y, .int .i64 x.w, .int .i64 x.h, .string x.tx] 31))) := (Below.refl _ _).alloc (Nat.le_refl _) _
  have HO : Hid (lcOk l x = (goodF l && nearB x.x && nearB x.y && extB x.w && extB x.h)) := rfl
  have HA : Hid (lcR l x = (lcOk l x && !(l.any (meetB (asOf x))))) := rfl
  rcases Bool.eq_false_or_eq_true (goodF l) with h0 | h0
  rotate_left
  · clear hn hr
    go_enter Try.func10, Try.ntmps10
    go_wp2_with fail
    refine (G _ HB0.out).mono ?_
    rintro e w1 ⟨rfl, b1⟩
    have bb := HB0.out.trans (b1.mono HB0.out.size)
    obtain ⟨q0, q1, q2, q3, q4, q5⟩ := keepL6 b1 HL0.out
    rw [h0]
    clear G b1
    go_wp2
    go_ret2
    exact ⟨ret_tup2 (by rw [HA.out, HO.out]; simp [h0]) (by rw [HO.out]; simp [h0]), bb⟩
  rcases Bool.eq_false_or_eq_true (nearB x.x) with h1 | h1
  rotate_left
  · clear hn hr
    go_enter Try.func10, Try.ntmps10
    go_wp2_with fail
    refine (G _ HB0.out).mono ?_
    rintro e w1 ⟨rfl, b1⟩
    have bb := HB0.out.trans (b1.mono HB0.out.size)
    obtain ⟨q0, q1, q2, q3, q4, q5⟩ := keepL6 b1 HL0.out
    rw [h0]
    clear G b1
    go_wp2_with fail
    refine (isNear_any x.x _).mono ?_
    rintro e w' ⟨rfl, hw'⟩
    have hw' := hw'.symm
    subst hw'
    rw [h1]
    go_wp2
    go_ret2
    exact ⟨ret_tup2 (by rw [HA.out, HO.out]; simp [h1]) (by rw [HO.out]; simp [h1]), bb⟩
  rcases Bool.eq_false_or_eq_true (nearB x.y) with h2 | h2
  rotate_left
  · clear hn hr
    go_enter Try.func10, Try.ntmps10
    go_wp2_with fail
    refine (G _ HB0.out).mono ?_
    rintro e w1 ⟨rfl, b1⟩
    have bb := HB0.out.trans (b1.mono HB0.out.size)
    obtain ⟨q0, q1, q2, q3, q4, q5⟩ := keepL6 b1 HL0.out
    rw [h0]
    clear G b1
    go_wp2_with fail
    refine (isNear_any x.x _).mono ?_
    rintro e w' ⟨rfl, hw'⟩
    have hw' := hw'.symm
    subst hw'
    rw [h1]
    go_wp2_with fail
    refine (isNear_any x.y _).mono ?_
    rintro e w' ⟨rfl, hw'⟩
    have hw' := hw'.symm
    subst hw'
    rw [h2]
    go_wp2
    go_ret2
    exact ⟨ret_tup2 (by rw [HA.out, HO.out]; simp [h2]) (by rw [HO.out]; simp [h2]), bb⟩
  rcases Bool.eq_false_or_eq_true (extB x.w) with h3 | h3
  rotate_left
  · clear hn hr
    go_enter Try.func10, Try.ntmps10
    go_wp2_with fail
    refine (G _ HB0.out).mono ?_
    rintro e w1 ⟨rfl, b1⟩
    have bb := HB0.out.trans (b1.mono HB0.out.size)
    obtain ⟨q0, q1, q2, q3, q4, q5⟩ := keepL6 b1 HL0.out
    rw [h0]
    clear G b1
    go_wp2_with fail
    refine (isNear_any x.x _).mono ?_
    rintro e w' ⟨rfl, hw'⟩
    have hw' := hw'.symm
    subst hw'
    rw [h1]
    go_wp2_with fail
    refine (isNear_any x.y _).mono ?_
    rintro e w' ⟨rfl, hw'⟩
    have hw' := hw'.symm
    subst hw'
    rw [h2]
    go_wp2_with fail
    refine (isExtent_any x.w _).mono ?_
    rintro e w' ⟨rfl, hw'⟩
    have hw' := hw'.symm
    subst hw'
    rw [h3]
    go_wp2
    go_ret2
    exact ⟨ret_tup2 (by rw [HA.out, HO.out]; simp [h3]) (by rw [HO.out]; simp [h3]), bb⟩
  rcases Bool.eq_false_or_eq_true (extB x.h) with h4 | h4
  rotate_left
  · clear hn hr
    go_enter Try.func10, Try.ntmps10
    go_wp2_with fail
    refine (G _ HB0.out).mono ?_
    rintro e w1 ⟨rfl, b1⟩
    have bb := HB0.out.trans (b1.mono HB0.out.size)
    obtain ⟨q0, q1, q2, q3, q4, q5⟩ := keepL6 b1 HL0.out
    rw [h0]
    clear G b1
    go_wp2_with fail
    refine (isNear_any x.x _).mono ?_
    rintro e w' ⟨rfl, hw'⟩
    have hw' := hw'.symm
    subst hw'
    rw [h1]
    go_wp2_with fail
    refine (isNear_any x.y _).mono ?_
    rintro e w' ⟨rfl, hw'⟩
    have hw' := hw'.symm
    subst hw'
    rw [h2]
    go_wp2_with fail
    refine (isExtent_any x.w _).mono ?_
    rintro e w' ⟨rfl, hw'⟩
    have hw' := hw'.symm
    subst hw'
    rw [h3]
    go_wp2_with fail
    refine (isExtent_any x.h _).mono ?_
    rintro e w' ⟨rfl, hw'⟩
    have hw' := hw'.symm
    subst hw'
    rw [h4]
    go_wp2
    go_ret2
    exact ⟨ret_tup2 (by rw [HA.out, HO.out]; simp [h4]) (by rw [HO.out]; simp [h4]), bb⟩
  have MA : ∀ W, Below w.heap.size w W → Calls Try.prog 25 #[.slice a n cap, .agg #[.int .i64 0, .int .i64 x.x, .int .i64 x.y, .int .i64 x.w, .int .i64 x.h]] W fun e w' => e = .returned (.bool (l.any (meetB (asOf x)))) ∧ Below W.heap.size W w' :=
    fun W h => meetsAny_any a n cap l (asOf x) W hn (hr.below h) hl (fun z hz => goodF_fine h0 hz) (asOf_fine h1 h2 h3 h4)
  generalize l.any (meetB (asOf x)) = r at MA HA
  clear hn hr
  go_enter Try.func10, Try.ntmps10
  go_wp2_with fail
  refine (G _ HB0.out).mono ?_
  rintro e w1 ⟨rfl, b1⟩
  have bb := HB0.out.trans (b1.mono HB0.out.size)
  obtain ⟨q0, q1, q2, q3, q4, q5⟩ := keepL6 b1 HL0.out
  rw [h0]
  clear G b1
  go_wp2_with fail
  refine (isNear_any x.x _).mono ?_
  rintro e w' ⟨rfl, hw'⟩
  have hw' := hw'.symm
  subst hw'
  rw [h1]
  go_wp2_with fail
  refine (isNear_any x.y _).mono ?_
  rintro e w' ⟨rfl, hw'⟩
  have hw' := hw'.symm
  subst hw'
  rw [h2]
  go_wp2_with fail
  refine (isExtent_any x.w _).mono ?_
  rintro e w' ⟨rfl, hw'⟩
  have hw' := hw'.symm
  subst hw'
  rw [h3]
  go_wp2_with fail
  refine (isExtent_any x.h _).mono ?_
  rintro e w' ⟨rfl, hw'⟩
  have hw' := hw'.symm
  subst hw'
  rw [h4]
  go_wp2_with fail
  refine (MA _ bb).mono ?_
  rintro e w2 ⟨rfl, c2⟩
  have b2 := bb.trans (c2.mono bb.size)
  clear c2 MA q0 q1 q2 q3 q4 q5 bb
  go_wp2
  go_ret2
  exact ⟨ret_tup2 (by rw [HA.out, HO.out]; simp [h0, h1, h2, h3, h4]) (by rw [HO.out]; simp [h0, h1, h2, h3, h4]), b2⟩

set_option maxHeartbeats 8000000 in
theorem specClear_any (a : Option Addr) (n cap : Nat) (l : List Asd) (x : Ln) (w : World) (hn : n = l.length) (hr : AsRow w a l) (hl : n ≤ 1048576) :
    Calls Try.prog 7 #[.slice a n cap, .agg #[.int .i64 x.bx, .int .i64 x.x, .int .i64 x.y, .int .i64 x.w, .int .i64 x.h, .string x.tx]] w fun e w' => e = .returned (.tuple #[.bool (lcR l x), .bool (lcOk l x)]) ∧ Below w.heap.size w w' := by
  have G := fun (W : World) (h : Below w.heap.size w W) => specGoodF_any a n cap l W hn (hr.below h) hl
  have HL0 : Hid ((w.alloc (.cells #[.int .i64 x.bx, .int .i64 x.x, .int .i64 x.y, .int .i64 x.w, .int .i64 x.h, .string x.tx] 31)).heap[w.heap.size]? = some (.cells #[.int .i64 x.bx, .int .i64 x.x, .int .i64 x.y, .int .i64 x.w, .int .i64 x.h, .string x.tx] 31 (0, 0))) := heap_alloc_new w (.cells #[.int .i64 x.bx, .int .i64 x.x, .int .i64 x.y, .int .i64 x.w, .int .i64 x.h, .string x.tx] 31)
  have HB0 : Hid (Below w.heap.size w (w.alloc (.cells #[.int .i64 x.bx, .int .i64 x.x, .int .i64 x.y, .int .i64 x.w, .int .i64 x.h, .string x.tx] 31))) := (Below.refl _ _).alloc (Nat.le_refl _) _
  have HO : Hid (lcOk l x = (goodF l && nearB x.x && nearB x.y && extB x.w && extB x.h)) := rfl
  have HA : Hid (lcR l x = (lcOk l x && !(l.any (meetB (asOf x))))) := rfl
  rcases Bool.eq_false_or_eq_true (goodF l) with h0 | h0
  rotate_left
  · clear hn hr
    go_enter Try.func7, Try.ntmps7
    go_wp2_with fail
    refine (G _ HB0.out).mono ?_
    rintro e w1 ⟨rfl, b1⟩
    have bb := HB0.out.trans (b1.mono HB0.out.size)
    obtain ⟨q0, q1, q2, q3, q4, q5⟩ := keepL6 b1 HL0.out
    rw [h0]
    clear G b1
    go_wp2
    go_ret2
    exact ⟨ret_tup2 (by rw [HA.out, HO.out]; simp [h0]) (by rw [HO.out]; simp [h0]), bb⟩
  rcases Bool.eq_false_or_eq_true (nearB x.x) with h1 | h1
  rotate_left
  · clear hn hr
    go_enter Try.func7, Try.ntmps7
    go_wp2_with fail
    refine (G _ HB0.out).mono ?_
    rintro e w1 ⟨rfl, b1⟩
    have bb := HB0.out.trans (b1.mono HB0.out.size)
    obtain ⟨q0, q1, q2, q3, q4, q5⟩ := keepL6 b1 HL0.out
    rw [h0]
    clear G b1
    go_wp2_with fail
    refine (l7Place_any x.x _).mono ?_
    rintro e w' ⟨rfl, hw'⟩
    have hw' := hw'.symm
    subst hw'
    rw [h1]
    go_wp2
    go_ret2
    exact ⟨ret_tup2 (by rw [HA.out, HO.out]; simp [h1]) (by rw [HO.out]; simp [h1]), bb⟩
  rcases Bool.eq_false_or_eq_true (nearB x.y) with h2 | h2
  rotate_left
  · clear hn hr
    go_enter Try.func7, Try.ntmps7
    go_wp2_with fail
    refine (G _ HB0.out).mono ?_
    rintro e w1 ⟨rfl, b1⟩
    have bb := HB0.out.trans (b1.mono HB0.out.size)
    obtain ⟨q0, q1, q2, q3, q4, q5⟩ := keepL6 b1 HL0.out
    rw [h0]
    clear G b1
    go_wp2_with fail
    refine (l7Place_any x.x _).mono ?_
    rintro e w' ⟨rfl, hw'⟩
    have hw' := hw'.symm
    subst hw'
    rw [h1]
    go_wp2_with fail
    refine (l7Place_any x.y _).mono ?_
    rintro e w' ⟨rfl, hw'⟩
    have hw' := hw'.symm
    subst hw'
    rw [h2]
    go_wp2
    go_ret2
    exact ⟨ret_tup2 (by rw [HA.out, HO.out]; simp [h2]) (by rw [HO.out]; simp [h2]), bb⟩
  rcases Bool.eq_false_or_eq_true (extB x.w) with h3 | h3
  rotate_left
  · clear hn hr
    go_enter Try.func7, Try.ntmps7
    go_wp2_with fail
    refine (G _ HB0.out).mono ?_
    rintro e w1 ⟨rfl, b1⟩
    have bb := HB0.out.trans (b1.mono HB0.out.size)
    obtain ⟨q0, q1, q2, q3, q4, q5⟩ := keepL6 b1 HL0.out
    rw [h0]
    clear G b1
    go_wp2_with fail
    refine (l7Place_any x.x _).mono ?_
    rintro e w' ⟨rfl, hw'⟩
    have hw' := hw'.symm
    subst hw'
    rw [h1]
    go_wp2_with fail
    refine (l7Place_any x.y _).mono ?_
    rintro e w' ⟨rfl, hw'⟩
    have hw' := hw'.symm
    subst hw'
    rw [h2]
    go_wp2_with fail
    refine (l7Span_any x.w _).mono ?_
    rintro e w' ⟨rfl, hw'⟩
    have hw' := hw'.symm
    subst hw'
    rw [h3]
    go_wp2
    go_ret2
    exact ⟨ret_tup2 (by rw [HA.out, HO.out]; simp [h3]) (by rw [HO.out]; simp [h3]), bb⟩
  rcases Bool.eq_false_or_eq_true (extB x.h) with h4 | h4
  rotate_left
  · clear hn hr
    go_enter Try.func7, Try.ntmps7
    go_wp2_with fail
    refine (G _ HB0.out).mono ?_
    rintro e w1 ⟨rfl, b1⟩
    have bb := HB0.out.trans (b1.mono HB0.out.size)
    obtain ⟨q0, q1, q2, q3, q4, q5⟩ := keepL6 b1 HL0.out
    rw [h0]
    clear G b1
    go_wp2_with fail
    refine (l7Place_any x.x _).mono ?_
    rintro e w' ⟨rfl, hw'⟩
    have hw' := hw'.symm
    subst hw'
    rw [h1]
    go_wp2_with fail
    refine (l7Place_any x.y _).mono ?_
    rintro e w' ⟨rfl, hw'⟩
    have hw' := hw'.symm
    subst hw'
    rw [h2]
    go_wp2_with fail
    refine (l7Span_any x.w _).mono ?_
    rintro e w' ⟨rfl, hw'⟩
    have hw' := hw'.symm
    subst hw'
    rw [h3]
    go_wp2_with fail
    refine (l7Span_any x.h _).mono ?_
    rintro e w' ⟨rfl, hw'⟩
    have hw' := hw'.symm
    subst hw'
    rw [h4]
    go_wp2
    go_ret2
    exact ⟨ret_tup2 (by rw [HA.out, HO.out]; simp [h4]) (by rw [HO.out]; simp [h4]), bb⟩
  have MA : ∀ W, Below w.heap.size w W → Calls Try.prog 20 #[.slice a n cap, .agg #[.int .i64 x.bx, .int .i64 x.x, .int .i64 x.y, .int .i64 x.w, .int .i64 x.h, .string x.tx]] W fun e w' => e = .returned (.bool (!(l.any (meetB (asOf x))))) ∧ Below W.heap.size W w' :=
    fun W h => l8Clear_any a n cap l x W hn (hr.below h) hl (fun z hz => goodF_fine h0 hz) (asOf_fine h1 h2 h3 h4)
  generalize l.any (meetB (asOf x)) = r at MA HA
  clear hn hr
  go_enter Try.func7, Try.ntmps7
  go_wp2_with fail
  refine (G _ HB0.out).mono ?_
  rintro e w1 ⟨rfl, b1⟩
  have bb := HB0.out.trans (b1.mono HB0.out.size)
  obtain ⟨q0, q1, q2, q3, q4, q5⟩ := keepL6 b1 HL0.out
  rw [h0]
  clear G b1
  go_wp2_with fail
  refine (l7Place_any x.x _).mono ?_
  rintro e w' ⟨rfl, hw'⟩
  have hw' := hw'.symm
  subst hw'
  rw [h1]
  go_wp2_with fail
  refine (l7Place_any x.y _).mono ?_
  rintro e w' ⟨rfl, hw'⟩
  have hw' := hw'.symm
  subst hw'
  rw [h2]
  go_wp2_with fail
  refine (l7Span_any x.w _).mono ?_
  rintro e w' ⟨rfl, hw'⟩
  have hw' := hw'.symm
  subst hw'
  rw [h3]
  go_wp2_with fail
  refine (l7Span_any x.h _).mono ?_
  rintro e w' ⟨rfl, hw'⟩
  have hw' := hw'.symm
  subst hw'
  rw [h4]
  go_wp2_with fail
  refine (MA _ bb).mono ?_
  rintro e w2 ⟨rfl, c2⟩
  have b2 := bb.trans (c2.mono bb.size)
  clear c2 MA q0 q1 q2 q3 q4 q5 bb
  go_wp2
  go_ret2
  exact ⟨ret_tup2 (by rw [HA.out, HO.out]; simp [h0, h1, h2, h3, h4]) (by rw [HO.out]; simp [h0, h1, h2, h3, h4]), b2⟩
end Go.Proofs.Ytdkfjdjgfmabgaa
