/-
  RoomAt: of the model and of the program, for every row of floats and every numbers.
-/
import Derived.Test.YtngbkcihdbnlgaaAfC
import Derived.Test.YtngbkcihdbnlgaaAfX
namespace Go.Proofs.Ytngbkcihdbnlgaa
open Go.ChangeShapes Go.WideShapes Go.ChangeAt Go.RowKit
set_option linter.unusedVariables false

theorem ret_tup3 {a b c d e f : Value} (h : a = d) (k : b = e) (m : c = f) : Ending.returned (.tuple #[a, b, c]) = .returned (.tuple #[d, e, f]) := by rw [h, k, m]
set_option maxHeartbeats 2000000 in
theorem allNear_any (b n cap : Nat) (zs : List Int) (w : World) (hn : n = zs.length) (hl : n ≤ 100) (hc : ∀ i z, zs[i]? = some z → w.cell? ⟨b, i, none⟩ = some (.int .i64 z)) :
    Calls Try.prog 40 #[.slice (some ⟨b, 0, none⟩) n cap, .func (.func 31) #[] #[]] w fun e w' => e = .returned (.bool (zs.all nearB)) ∧ w' = w := by
  have HN : Hid (n = zs.length) := hn
  have HC : Hid (∀ i z, zs[i]? = some z → w.cell? ⟨b, i, none⟩ = some (.int .i64 z)) := hc
  clear hn hc
  go_enter Try.func40, Try.ntmps40
  go_wp2_with fail
  go_loopw [9] (fun i wr => ∃ k : Nat, k ≤ n ∧ i = .int .i64 k ∧ (∀ (i : Nat) (z : Int), i < k → zs[i]? = some z → nearB z = true) ∧ wr = w) (fun i _ => n - (intOf i).toNat)
  case atStart => exact ⟨0, Nat.zero_le _, rfl, fun i x hi => absurd hi (by omega), rfl⟩
  case round =>
    obtain ⟨k, hk, rfl, hp, hwr⟩ := hrel
    subst hwr
    have HP : Hid (∀ (i : Nat) (z : Int), i < k → zs[i]? = some z → nearB z = true) := hp
    clear hp
    by_cases hlt : k < n
    rotate_left
    · have HG : Hid (zs.all nearB = true) := List.all_eq_true.2 fun x hx => by
        obtain ⟨i, hi⟩ := List.getElem?_of_mem hx
        exact HP.out i x (by have := (List.getElem?_eq_some_iff.1 hi).1; have := HN.out; omega) hi
      go_wp2
      go_ret
      exact ⟨ret_bool HG.out.symm, rfl⟩
    obtain ⟨z, hz⟩ : ∃ z, zs[k]? = some z := ⟨_, List.getElem?_eq_getElem (by have := HN.out; omega)⟩
    have hcz := HC.out k z hz
    have HZ : Hid (zs[k]? = some z) := hz
    clear hz
    go_wp2_with fail
    refine (isNear_any z _).mono ?_
    rintro e w' ⟨rfl, hw'⟩
    have hw' := hw'.symm
    subst hw'
    clear hcz
    rcases Bool.eq_false_or_eq_true (nearB z) with hg | hg
    · rw [hg]
      go_wp2
      go_roundw
      case rel => exact ⟨k + 1, by omega, by go_num, fun i y hi hy => (by
        by_cases e : i = k
        · subst e
          obtain rfl := Option.some.inj (HZ.out.symm.trans hy)
          exact hg
        · exact HP.out i y (by omega) hy), trivial⟩
      case measure => simp [intOf]; omega
    · rw [hg]
      go_wp2
      go_ret
      exact ⟨ret_bool (List.all_eq_false.2 ⟨z, List.mem_of_getElem? HZ.out, by simp [hg]⟩).symm, rfl⟩

def pL (t e : Int) (x : Asd) : Bool := decide (x.sd = 1) && atB t e x
def pR (t e : Int) (x : Asd) : Bool := decide (x.sd = 2) && atB t e x
theorem leftL_eq (t e : Int) (l : List Asd) : leftL t e l = l.filter (pL t e) := by unfold leftL pL; rw [List.filter_filter]
theorem rightL_eq (t e : Int) (l : List Asd) : rightL t e l = l.filter (pR t e) := by unfold rightL pR; rw [List.filter_filter]
/-- The room, so far. -/
structure RoomTo (t e : Int) (l : List Asd) (left right : Int) (k : Nat) (a b : Int) : Prop where
  lo : a = roomA t e (l.take k) left
  hi : b = roomB t e (l.take k) right
theorem roomTo_next {t e : Int} {l : List Asd} {left right : Int} {k : Nat} {a b a' b' : Int} {x : Asd} (h : RoomTo t e l left right k a b) (hx : l[k]? = some x)
    (ha : a' = if pL t e x then max a (x.x + x.w) else a) (hb : b' = if pR t e x then min b x.x else b) : RoomTo t e l left right (k + 1) a' b' := by
  refine ⟨?_, ?_⟩
  · unfold roomA
    rw [leftL_eq, ha, h.lo]
    unfold roomA
    rw [leftL_eq]
    cases hp : pL t e x with
    | false => rw [filter_no hx hp]; rfl
    | true => rw [filter_yes hx hp, mx_snoc]; rfl
  · unfold roomB
    rw [rightL_eq, hb, h.hi]
    unfold roomB
    rw [rightL_eq]
    cases hp : pR t e x with
    | false => rw [filter_no hx hp]; rfl
    | true => rw [filter_yes hx hp, mn_snoc]; rfl
set_option maxHeartbeats 8000000 in
theorem l7Room_any (a : Option Addr) (n cap : Nat) (l : List Asd) (y high left right : Int) (w : World) (hn : n = l.length) (hr : AsRow w a l) (hl : n ≤ 1048576) (hx : ∀ x ∈ l, Fine x) (hy0 : -300000000 ≤ y) (hy1 : y ≤ 300000000) (hh0 : 0 ≤ high) (hh1 : high ≤ 1000000) :
    Calls Try.prog 38 #[.slice a n cap, .int .i64 y, .int .i64 high, .int .i64 left, .int .i64 right] w fun r w' => r = .returned (.tuple #[.int .i64 (roomA y (endS y high) l left), .int .i64 (roomB y (endS y high) l right)]) ∧ Below w.heap.size w w' := by
  have HN : Hid (n = l.length) := hn
  have HR : Hid (AsRow w a l) := hr
  have HF : Hid (∀ x ∈ l, Fine x) := hx
  have AT := fun x W hx => l7At_any x y high W hx hy0 hy1 hh0 hh1
  clear hn hr hx hy0 hy1 hh0 hh1
  go_enter Try.func38, Try.ntmps38
  go_wp2_with fail
  go_loopw [3, 4, 16] (fun u v i wr => ∃ (k : Nat) (p q : Int), k ≤ n ∧ i = .int .i64 k ∧ u = .int .i64 p ∧ v = .int .i64 q ∧ RoomTo y (endS y high) l left right k p q ∧ Below w.heap.size w wr) (fun _ _ i _ => n - (intOf i).toNat)
  case atStart => exact ⟨0, left, right, Nat.zero_le _, rfl, rfl, rfl, ⟨rfl, rfl⟩, Below.refl _ _⟩
  case round =>
    obtain ⟨k, p, q, hk, rfl, rfl, rfl, hp, hbw⟩ := hrel
    have HP : Hid (RoomTo y (endS y high) l left right k p q) := hp
    clear hp
    by_cases hlt : k < n
    rotate_left
    · have HT : Hid (l.take k = l) := List.take_of_length_le (by have := HN.out; omega)
      go_wp2
      go_ret2
      exact ⟨ret_tup2 (by rw [← HT.out, ← HP.out.lo]; rfl) (by rw [← HT.out, ← HP.out.hi]; rfl), hbw⟩
    obtain ⟨x, hx⟩ : ∃ x, l[k]? = some x := ⟨_, List.getElem?_eq_getElem (by have := HN.out; omega)⟩
    obtain ⟨b, off, rfl, hc⟩ := as_some HR.out hx
    have hr := as_below (hc k x hx) hbw (as_lt (hc k x hx))
    obtain ⟨q0, q1, q2, q3, q4⟩ := as_cells hr
    have HX : Hid (l[k]? = some x) := hx
    have fx := HF.out x (List.mem_of_getElem? hx)
    have f0 := fx.x0
    have f1 := fx.x1
    have f2 := fx.w0
    have f3 := fx.w1
    clear hc hx hr
    go_wp2_with fail
    refine (AT x _ fx).mono ?_
    rintro e w2 ⟨rfl, hw2⟩
    have b2 : Below w.heap.size w w2 := (hbw.alloc hbw.size _).trans ((below_one hw2).mono (by have := hbw.size; simp; omega))
    have l2 := below_lies (below_one hw2) (heap_alloc_new wr _) (by simp)
    clear hw2 hbw q0 q1 q2 q3 q4 fx AT
    have r0 : w2.cell? ⟨wr.heap.size, 0, none⟩ = some (.int .i64 x.sd) := cell_at l2 0 rfl
    have r1 : w2.cell? ⟨wr.heap.size, 1, none⟩ = some (.int .i64 x.x) := cell_at l2 1 rfl
    have r2 : w2.cell? ⟨wr.heap.size, 2, none⟩ = some (.int .i64 x.y) := cell_at l2 2 rfl
    have r3 : w2.cell? ⟨wr.heap.size, 3, none⟩ = some (.int .i64 x.w) := cell_at l2 3 rfl
    have r4 : w2.cell? ⟨wr.heap.size, 4, none⟩ = some (.int .i64 x.h) := cell_at l2 4 rfl
    have HL : Hid (pL y (endS y high) x = (decide (x.sd = 1) && atB y (endS y high) x)) := rfl
    have HRR : Hid (pR y (endS y high) x = (decide (x.sd = 2) && atB y (endS y high) x)) := rfl
    clear l2
    generalize atB y (endS y high) x = at0 at HL HRR
    cases at0
    · go_wp2
      go_roundw
      case rel => exact ⟨k + 1, _, _, by omega, by go_num, rfl, rfl, roomTo_next HP.out HX.out (by rw [HL.out, Bool.and_false]; rfl) (by rw [HRR.out, Bool.and_false]; rfl), b2⟩
      case measure => simp [intOf]; omega
    · generalize x.sd = sd at r0 HL HRR
      by_cases s1 : sd = 1
      · subst s1
        by_cases h : p < x.x + x.w
        · go_wp2
          go_roundw
          case rel => exact ⟨k + 1, _, _, by omega, by go_num, rfl, rfl, roomTo_next HP.out HX.out (by rw [HL.out]; simp; omega) (by rw [HRR.out]; simp), b2⟩
          case measure => simp [intOf]; omega
        · go_wp2
          go_roundw
          case rel => exact ⟨k + 1, _, _, by omega, by go_num, rfl, rfl, roomTo_next HP.out HX.out (by rw [HL.out]; simp; omega) (by rw [HRR.out]; simp), b2⟩
          case measure => simp [intOf]; omega
      · by_cases s2 : sd = 2
        · subst s2
          by_cases h : x.x < q
          · go_wp2
            go_roundw
            case rel => exact ⟨k + 1, _, _, by omega, by go_num, rfl, rfl, roomTo_next HP.out HX.out (by rw [HL.out]; simp) (by rw [HRR.out]; simp; omega), b2⟩
            case measure => simp [intOf]; omega
          · go_wp2
            go_roundw
            case rel => exact ⟨k + 1, _, _, by omega, by go_num, rfl, rfl, roomTo_next HP.out HX.out (by rw [HL.out]; simp) (by rw [HRR.out]; simp; omega), b2⟩
            case measure => simp [intOf]; omega
        · have HS1 : Hid (decide (sd = 1) = false) := decide_eq_false s1
          have HS2 : Hid (decide (sd = 2) = false) := decide_eq_false s2
          go_wp2
          go_roundw
          case rel => exact ⟨k + 1, _, _, by omega, by go_num, rfl, rfl, roomTo_next HP.out HX.out (by rw [HL.out, HS1.out]; rfl) (by rw [HRR.out, HS2.out]; rfl), b2⟩
          case measure => simp [intOf]; omega
def roomOk (l : List Asd) (y high left right : Int) : Bool := goodF l && nearB y && extB high && nearB left && nearB right
def roomRA (l : List Asd) (y high left right : Int) : Int := if roomOk l y high left right then roomA y (endS y high) l left else 0
def roomRB (l : List Asd) (y high left right : Int) : Int := if roomOk l y high left right then roomB y (endS y high) l right else 0
set_option maxHeartbeats 8000000 in
theorem specRoom_any (a : Option Addr) (n cap : Nat) (l : List Asd) (y : Int) (high : Int) (left : Int) (right : Int) (w : World) (hn : n = l.length) (hr : AsRow w a l) (hl : n ≤ 1048576) :
    Calls Try.prog 18 #[.slice a n cap, .int .i64 y, .int .i64 high, .int .i64 left, .int .i64 right] w fun e w' => e = .returned (.tuple #[.int .i64 (roomRA l y high left right), .int .i64 (roomRB l y high left right), .bool (roomOk l y high left right)]) ∧ Below w.heap.size w w' := by
  have G := fun (W : World) (h : Below w.heap.size w W) => specGoodF_any a n cap l W hn (hr.below h) hl
  have HN : Hid (n = l.length) := hn
  have HR : Hid (AsRow w a l) := hr
  clear hn hr
  rcases Bool.eq_false_or_eq_true (goodF l) with hg | hg
  rotate_left
  · have HO : Hid (roomOk l y high left right = false) := by show roomOk l y high left right = false; unfold roomOk; simp [hg]
    go_enter Try.func18, Try.ntmps18
    go_wp2_with fail
    refine (G _ (Below.refl _ _)).mono ?_
    rintro e w1 ⟨rfl, b1⟩
    rw [hg]
    clear G
    go_wp2
    go_ret3
    exact ⟨ret_tup3 (by unfold roomRA; rw [HO.out]; rfl) (by unfold roomRB; rw [HO.out]; rfl) (by rw [HO.out]; rfl), b1⟩
  rcases Bool.eq_false_or_eq_true (nearB y) with h0 | h0
  rotate_left
  · have HO : Hid (roomOk l y high left right = false) := by show roomOk l y high left right = false; unfold roomOk; simp [h0]
    go_enter Try.func18, Try.ntmps18
    go_wp2_with fail
    refine (G _ (Below.refl _ _)).mono ?_
    rintro e w1 ⟨rfl, b1⟩
    rw [hg]
    clear G
    go_wp2_with fail
    refine (l7Place_any y _).mono ?_
    rintro e w' ⟨rfl, hw'⟩
    have hw' := hw'.symm
    subst hw'
    rw [h0]
    go_wp2
    go_ret3
    exact ⟨ret_tup3 (by unfold roomRA; rw [HO.out]; rfl) (by unfold roomRB; rw [HO.out]; rfl) (by rw [HO.out]; rfl), b1⟩
  rcases Bool.eq_false_or_eq_true (extB high) with h1 | h1
  rotate_left
  · have HO : Hid (roomOk l y high left right = false) := by show roomOk l y high left right = false; unfold roomOk; simp [h1]
    go_enter Try.func18, Try.ntmps18
    go_wp2_with fail
    refine (G _ (Below.refl _ _)).mono ?_
    rintro e w1 ⟨rfl, b1⟩
    rw [hg]
    clear G
    go_wp2_with fail
    refine (l7Place_any y _).mono ?_
    rintro e w' ⟨rfl, hw'⟩
    have hw' := hw'.symm
    subst hw'
    rw [h0]
    go_wp2_with fail
    refine (l7Span_any high _).mono ?_
    rintro e w' ⟨rfl, hw'⟩
    have hw' := hw'.symm
    subst hw'
    rw [h1]
    go_wp2
    go_ret3
    exact ⟨ret_tup3 (by unfold roomRA; rw [HO.out]; rfl) (by unfold roomRB; rw [HO.out]; rfl) (by rw [HO.out]; rfl), b1⟩
  rcases Bool.eq_false_or_eq_true (nearB left) with h2 | h2
  rotate_left
  · have HO : Hid (roomOk l y high left right = false) := by show roomOk l y high left right = false; unfold roomOk; simp [h2]
    go_enter Try.func18, Try.ntmps18
    go_wp2_with fail
    refine (G _ (Below.refl _ _)).mono ?_
    rintro e w1 ⟨rfl, b1⟩
    rw [hg]
    clear G
    go_wp2_with fail
    refine (l7Place_any y _).mono ?_
    rintro e w' ⟨rfl, hw'⟩
    have hw' := hw'.symm
    subst hw'
    rw [h0]
    go_wp2_with fail
    refine (l7Span_any high _).mono ?_
    rintro e w' ⟨rfl, hw'⟩
    have hw' := hw'.symm
    subst hw'
    rw [h1]
    go_wp2_with fail
    refine (l7Place_any left _).mono ?_
    rintro e w' ⟨rfl, hw'⟩
    have hw' := hw'.symm
    subst hw'
    rw [h2]
    go_wp2
    go_ret3
    exact ⟨ret_tup3 (by unfold roomRA; rw [HO.out]; rfl) (by unfold roomRB; rw [HO.out]; rfl) (by rw [HO.out]; rfl), b1⟩
  rcases Bool.eq_false_or_eq_true (nearB right) with h3 | h3
  rotate_left
  · have HO : Hid (roomOk l y high left right = false) := by show roomOk l y high left right = false; unfold roomOk; simp [h3]
    go_enter Try.func18, Try.ntmps18
    go_wp2_with fail
    refine (G _ (Below.refl _ _)).mono ?_
    rintro e w1 ⟨rfl, b1⟩
    rw [hg]
    clear G
    go_wp2_with fail
    refine (l7Place_any y _).mono ?_
    rintro e w' ⟨rfl, hw'⟩
    have hw' := hw'.symm
    subst hw'
    rw [h0]
    go_wp2_with fail
    refine (l7Span_any high _).mono ?_
    rintro e w' ⟨rfl, hw'⟩
    have hw' := hw'.symm
    subst hw'
    rw [h1]
    go_wp2_with fail
    refine (l7Place_any left _).mono ?_
    rintro e w' ⟨rfl, hw'⟩
    have hw' := hw'.symm
    subst hw'
    rw [h2]
    go_wp2_with fail
    refine (l7Place_any right _).mono ?_
    rintro e w' ⟨rfl, hw'⟩
    have hw' := hw'.symm
    subst hw'
    rw [h3]
    go_wp2
    go_ret3
    exact ⟨ret_tup3 (by unfold roomRA; rw [HO.out]; rfl) (by unfold roomRB; rw [HO.out]; rfl) (by rw [HO.out]; rfl), b1⟩
  have HO : Hid (roomOk l y high left right = true) := by show roomOk l y high left right = true; unfold roomOk; simp [hg, h0, h1, h2, h3]
  have FX : Hid (∀ x ∈ l, Fine x) := fun x hm => goodF_fine hg hm
  go_enter Try.func18, Try.ntmps18
  go_wp2_with fail
  refine (G _ (Below.refl _ _)).mono ?_
  rintro e w1 ⟨rfl, b1⟩
  rw [hg]
  clear G
  go_wp2_with fail
  refine (l7Place_any y _).mono ?_
  rintro e w' ⟨rfl, hw'⟩
  have hw' := hw'.symm
  subst hw'
  rw [h0]
  go_wp2_with fail
  refine (l7Span_any high _).mono ?_
  rintro e w' ⟨rfl, hw'⟩
  have hw' := hw'.symm
  subst hw'
  rw [h1]
  go_wp2_with fail
  refine (l7Place_any left _).mono ?_
  rintro e w' ⟨rfl, hw'⟩
  have hw' := hw'.symm
  subst hw'
  rw [h2]
  go_wp2_with fail
  refine (l7Place_any right _).mono ?_
  rintro e w' ⟨rfl, hw'⟩
  have hw' := hw'.symm
  subst hw'
  rw [h3]
  have yb := inB_yes h0
  have eb := inB_yes h1
  go_wp2_with fail
  refine (l7Room_any a n cap l y high left right _ HN.out (HR.out.below b1) hl FX.out (by omega) (by omega) (by omega) (by omega)).mono ?_
  rintro e w2 ⟨rfl, c2⟩
  have b2 := b1.trans (c2.mono b1.size)
  clear c2
  go_wp2
  go_ret3
  exact ⟨ret_tup3 (by unfold roomRA; rw [HO.out]; rfl) (by unfold roomRB; rw [HO.out]; rfl) (by rw [HO.out]; rfl), b2⟩
set_option maxHeartbeats 8000000 in
theorem implRoom_any (a : Option Addr) (n cap : Nat) (l : List Asd) (y : Int) (high : Int) (left : Int) (right : Int) (w : World) (hn : n = l.length) (hr : AsRow w a l) (hl : n ≤ 1048576) :
    Calls Try.prog 19 #[.slice a n cap, .int .i64 y, .int .i64 high, .int .i64 left, .int .i64 right] w fun e w' => e = .returned (.tuple #[.int .i64 (roomRA l y high left right), .int .i64 (roomRB l y high left right), .bool (roomOk l y high left right)]) ∧ Below w.heap.size w w' := by
  have G := fun (W : World) (h : Below w.heap.size w W) => implGoodF_any a n cap l W hn (hr.below h) hl
  have HN : Hid (n = l.length) := hn
  have HR : Hid (AsRow w a l) := hr
  clear hn hr
  rcases Bool.eq_false_or_eq_true (goodF l) with hg | hg
  rotate_left
  · have HO : Hid (roomOk l y high left right = false) := by show roomOk l y high left right = false; unfold roomOk; simp [hg]
    go_enter Try.func19, Try.ntmps19
    go_wp2_with fail
    refine (G _ (Below.refl _ _)).mono ?_
    rintro e w1 ⟨rfl, b1⟩
    rw [hg]
    clear G
    go_wp2
    go_ret3
    exact ⟨ret_tup3 (by unfold roomRA; rw [HO.out]; rfl) (by unfold roomRB; rw [HO.out]; rfl) (by rw [HO.out]; rfl), b1⟩
  rcases Bool.eq_false_or_eq_true (extB high) with h1 | h1
  rotate_left
  · have HO : Hid (roomOk l y high left right = false) := by show roomOk l y high left right = false; unfold roomOk; simp [h1]
    go_enter Try.func19, Try.ntmps19
    go_wp2_with fail
    refine (G _ (Below.refl _ _)).mono ?_
    rintro e w1 ⟨rfl, b1⟩
    rw [hg]
    clear G
    go_wp2_with fail
    refine (isExtent_any high _).mono ?_
    rintro e w' ⟨rfl, hw'⟩
    have hw' := hw'.symm
    subst hw'
    rw [h1]
    go_wp2
    go_ret3
    exact ⟨ret_tup3 (by unfold roomRA; rw [HO.out]; rfl) (by unfold roomRB; rw [HO.out]; rfl) (by rw [HO.out]; rfl), b1⟩
  rcases Bool.eq_false_or_eq_true ([y, left, right].all nearB) with h2 | h2
  rotate_left
  · have HO : Hid (roomOk l y high left right = false) := by
      show roomOk l y high left right = false
      have h2' : (nearB y && (nearB left && nearB right)) = false := by simpa using h2
      unfold roomOk
      revert h2'
      cases nearB y <;> cases nearB left <;> cases nearB right <;> simp
    go_enter Try.func19, Try.ntmps19
    go_wp2_with fail
    refine (G _ (Below.refl _ _)).mono ?_
    rintro e w1 ⟨rfl, b1⟩
    rw [hg]
    clear G
    go_wp2_with fail
    refine (isExtent_any high _).mono ?_
    rintro e w' ⟨rfl, hw'⟩
    have hw' := hw'.symm
    subst hw'
    rw [h1]
    have hlen : w.heap.size ≤ w1.heap.size := b1.size
    go_wp2_with fail
    refine (allNear_any w1.heap.size 3 3 [y, left, right] _ rfl (by omega) (fun i z hz => (by
      match i, hz with
      | 0, hz => simp at hz; subst hz; exact cell_at (heap_alloc_new w1 _) 0 rfl
      | 1, hz => simp at hz; subst hz; exact cell_at (heap_alloc_new w1 _) 1 rfl
      | 2, hz => simp at hz; subst hz; exact cell_at (heap_alloc_new w1 _) 2 rfl
      | i + 3, hz => simp at hz))).mono ?_
    rintro e w' ⟨rfl, hw'⟩
    have hw' := hw'.symm
    subst hw'
    have b2 : ∀ o, Below w.heap.size w (w1.alloc o) := fun o => b1.alloc b1.size _
    rw [h2]
    go_wp2
    go_ret3
    exact ⟨ret_tup3 (by unfold roomRA; rw [HO.out]; rfl) (by unfold roomRB; rw [HO.out]; rfl) (by rw [HO.out]; rfl), b2 _⟩
  have h2' : nearB y = true ∧ nearB left = true ∧ nearB right = true := by simpa using h2
  obtain ⟨h3, h4, h5⟩ := h2'
  have HO : Hid (roomOk l y high left right = true) := by show roomOk l y high left right = true; unfold roomOk; simp [hg, h1, h3, h4, h5]
  have FX : Hid (∀ x ∈ l, Fine x) := fun x hm => goodF_fine hg hm
  have hl40 := goodF_len hg
  go_enter Try.func19, Try.ntmps19
  go_wp2_with fail
  refine (G _ (Below.refl _ _)).mono ?_
  rintro e w1 ⟨rfl, b1⟩
  rw [hg]
  clear G
  go_wp2_with fail
  refine (isExtent_any high _).mono ?_
  rintro e w' ⟨rfl, hw'⟩
  have hw' := hw'.symm
  subst hw'
  rw [h1]
  have hlen : w.heap.size ≤ w1.heap.size := b1.size
  go_wp2_with fail
  refine (allNear_any w1.heap.size 3 3 [y, left, right] _ rfl (by omega) (fun i z hz => (by
    match i, hz with
    | 0, hz => simp at hz; subst hz; exact cell_at (heap_alloc_new w1 _) 0 rfl
    | 1, hz => simp at hz; subst hz; exact cell_at (heap_alloc_new w1 _) 1 rfl
    | 2, hz => simp at hz; subst hz; exact cell_at (heap_alloc_new w1 _) 2 rfl
    | i + 3, hz => simp at hz))).mono ?_
  rintro e w' ⟨rfl, hw'⟩
  have hw' := hw'.symm
  subst hw'
  have b2 : ∀ o, Below w.heap.size w (w1.alloc o) := fun o => b1.alloc b1.size _
  rw [h2]
  have b3 := b2 (.cells #[.int .i64 y, .int .i64 left, .int .i64 right] 3)
  clear b2 b1
  have yb := inB_yes h3
  have eb := inB_yes h1
  have lb := inB_yes h4
  have rb := inB_yes h5
  go_wp2_with fail
  refine (stretchOf_any y high _ (by omega) (by omega) (by omega) (by omega)).mono ?_
  rintro e w2 ⟨rfl, c2⟩
  have b4 := b3.trans (c2.mono b3.size)
  clear c2 b3
  go_wp2_with fail
  refine (roomIn_any y (endS y high) a n cap l left right _ HN.out (HR.out.below b4) (by have := HN.out; omega) FX.out (by omega) (by omega) (by omega) (by omega)).mono ?_
  rintro e w3 ⟨rfl, c3⟩
  have b5 := b4.trans (c3.mono b4.size)
  clear c3 b4
  go_wp2
  go_ret3
  exact ⟨ret_tup3 (by unfold roomRA; rw [HO.out]; rfl) (by unfold roomRB; rw [HO.out]; rfl) (by rw [HO.out]; rfl), b5⟩
end Go.Proofs.Ytngbkcihdbnlgaa
