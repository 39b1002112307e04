/-
  AnyAt and NextBottom: of the model and of the program, for every row of floats and every numbers.
-/
import Derived.Test.YtngbkcihdbnlgaaAfW
namespace Go.Proofs.Ytngbkcihdbnlgaa
open Go.ChangeShapes Go.WideShapes Go.ChangeAt Go.RowKit
set_option linter.unusedVariables false

set_option maxHeartbeats 2000000 in
theorem stretchOf_any (y high : Int) (w : World) (hy0 : -300000000 ≤ y) (hy1 : y ≤ 300000000) (hh0 : 0 ≤ high) (hh1 : high ≤ 1000000) :
    Calls Try.prog 42 #[.int .i64 y, .int .i64 high] w fun e w' => e = .returned (.agg #[.int .i64 y, .int .i64 (endS y high)]) ∧ Below w.heap.size w w' := by
  have HE : Hid (endS y high = y + max high 1) := rfl
  have m0 : 1 ≤ max high 1 := by omega
  have m1 : max high 1 ≤ 1000000 := by omega
  go_enter Try.func42, Try.ntmps42
  go_wp2
  refine bodyPost_ret (v := .agg #[.int .i64 y, .int .i64 (endS y high)]) (by rw [HE.out]; simp [results, Try.results42, go_sem]) rfl ⟨rfl, ?_⟩
  repeat (first | exact Below.refl _ _ | refine Below.setCell ?_ (by first | (simp; done) | (simp; omega)) _ | refine Below.alloc ?_ (by first | (simp; done) | (simp; omega)) _)
set_option maxHeartbeats 2000000 in
theorem holdsAny_any (t e : Int) (a : Option Addr) (n cap : Nat) (l : List Asd) (w : World) (hn : n = l.length) (hr : AsRow w a l) (hl : n ≤ 1048576) (hx : ∀ x ∈ l, Fine x) :
    Calls Try.prog 44 #[.agg #[.int .i64 t, .int .i64 e], .slice a n cap] w fun r w' => r = .returned (.bool (l.any (atB t e))) ∧ Below w.heap.size w w' := by
  have hmf : ∀ (fn : Fn) (first cap : Array Value) (w : World), (Instr.makeFunc fn first cap).run Try.prog w = .ok (.func fn first cap) w := fun _ _ _ _ => rfl
  have hb1 : Below w.heap.size w (w.alloc (.cells #[.int .i64 t, .int .i64 e] 70)) := below_one rfl
  have TH := those1_any 62 (.agg #[.int .i64 t, .int .i64 e]) (enters_of Try.func62 (by kernel_rfl) rfl) (atB t e) a n cap l (w.alloc (.cells #[.int .i64 t, .int .i64 e] 70)) hn (hr.below hb1) hl
    (fun x W hm _ => holds_any t e x W (hx x hm))
  have HA : Hid (decide ((0 : Int) < ((l.filter (atB t e)).length : Int)) = l.any (atB t e)) := any_filter _ _
  have HB : Hid (Below w.heap.size w (w.alloc (.cells #[.int .i64 t, .int .i64 e] 70))) := hb1
  generalize l.filter (atB t e) = zs at TH HA
  generalize l.any (atB t e) = r at HA
  clear hn hr hx hb1
  go_enter Try.func44, Try.ntmps44
  go_wp2_with fail
  refine TH.mono ?_
  rintro e w2 ⟨v, rfl, ho, hb⟩
  obtain ⟨a2, cap2, rfl, _, _, _, _⟩ := ho.form
  have b2 : Below w.heap.size w w2 := HB.out.trans (hb.mono (by simp))
  clear hb ho TH
  go_wp2
  go_ret
  exact ⟨ret_bool (by rw [← HA.out]; simp), b2⟩
set_option maxHeartbeats 2000000 in
theorem nextBottom_any (a : Option Addr) (n cap : Nat) (l : List Asd) (y : Int) (w : World) (hn : n = l.length) (hr : AsRow w a l) (hl : n ≤ 1048576) (hx : ∀ x ∈ l, Fine x) :
    Calls Try.prog 46 #[.slice a n cap, .int .i64 y] w fun e w' => e = .returned (.tuple #[.int .i64 (nextN l y), .bool (nextB l y)]) ∧ Below w.heap.size w w' := by
  have hmf : ∀ (fn : Fn) (first cap : Array Value) (w : World), (Instr.makeFunc fn first cap).run Try.prog w = .ok (.func fn first cap) w := fun _ _ _ _ => rfl
  have hb1 : Below w.heap.size w (w.alloc (.cells #[.int .i64 y] 3)) := below_one rfl
  have l1 : (w.alloc (.cells #[.int .i64 y] 3)).cell? ⟨w.heap.size, 0, none⟩ = some (.int .i64 y) := cell_at (heap_alloc_new w _) 0 rfl
  have TH := those2_any 63 (.pointer (some ⟨w.heap.size, 0, none⟩)) (enters_of Try.func63 (by kernel_rfl) rfl) (fun x => decide (y < x.y + x.h)) a n cap l (w.alloc (.cells #[.int .i64 y] 3)) hn (hr.below hb1) hl
    (fun x W hm hb => next1_any x w.heap.size y W (hx x hm) ((hb.cell (by simp)).trans l1))
  have HNN : Hid (nextN l y = le bot (nextL l y)) := rfl
  have HNB : Hid (nextB l y = !(nextL l y).isEmpty) := rfl
  have HX : Hid (∀ x ∈ nextL l y, Fine x) := fun x hm => hx x (List.mem_filter.1 hm).1
  have HL : Hid ((nextL l y).length ≤ 1048576) := Nat.le_trans (List.length_filter_le _ _) (by rw [← hn]; exact hl)
  have TH' : Calls Try.prog 54 #[.slice a n cap, .func (.func 63) #[] #[.pointer (some ⟨w.heap.size, 0, none⟩)]] (w.alloc (.cells #[.int .i64 y] 3)) fun e w' => ∃ v, e = .returned v ∧ OwnA w' (w.alloc (.cells #[.int .i64 y] 3)).heap.size v (nextL l y) ∧ Below (w.alloc (.cells #[.int .i64 y] 3)).heap.size (w.alloc (.cells #[.int .i64 y] 3)) w' := TH
  have HB : Hid (Below w.heap.size w (w.alloc (.cells #[.int .i64 y] 3))) := hb1
  generalize nextL l y = zs at TH' HNN HNB HX HL
  clear hn hr hx hb1 l1 TH
  go_enter Try.func46, Try.ntmps46
  go_wp2_with fail
  refine TH'.mono ?_
  rintro e w2 ⟨v, rfl, ho, hb⟩
  have b2 : Below w.heap.size w w2 := HB.out.trans (hb.mono (by simp))
  obtain ⟨a2, cap2, rfl, hcap, hrow, _, _⟩ := ho.form
  clear hb ho TH'
  cases zs with
  | nil =>
    go_wp2
    go_ret2
    exact ⟨ret_tup2 (by rw [HNN.out]; rfl) (by rw [HNB.out]; rfl), b2⟩
  | cons z zs =>
    obtain ⟨g, off, rfl, hc⟩ := as_some hrow (i := 0) (x := z) rfl
    have LE := least_any 64 (enters_of Try.func64 (by kernel_rfl) rfl) bot g off zs.length cap2 z zs w2 rfl hc (by have := HL.out; simp at this; omega) hcap
      (fun x hm => by have := HX.out x hm; have h0 := this.y0; have h1 := this.y1; have h2 := this.h0; have h3 := this.h1; unfold bot; omega) (fun x W hm => bottomOf_b x W (HX.out x hm))
    have hpos : ¬ ((zs.length : Int) + 1 = 0) := by omega
    have HZ : Hid (((z :: zs).length : Int) = (zs.length : Int) + 1) := by show ((z :: zs).length : Int) = (zs.length : Int) + 1; simp
    generalize le bot (z :: zs) = m at LE HNN
    rw [List.length_cons]
    generalize zs.length = k at LE hpos
    clear hc hrow hcap
    go_wp2_with fail
    refine LE.mono ?_
    rintro e w3 ⟨rfl, hb3⟩
    have b3 := b2.trans (hb3.mono b2.size)
    clear hb3 LE
    go_wp2
    go_ret2
    exact ⟨ret_tup2 (by rw [HNN.out]; rfl) (by rw [HNB.out]; rfl), b3⟩
def anyOk (l : List Asd) (y high : Int) : Bool := goodF l && nearB y && extB high
def anyR (l : List Asd) (y high : Int) : Bool := anyOk l y high && l.any (atB y (endS y high))
def nextOk (l : List Asd) (y : Int) : Bool := goodF l && nearB y
def nextRN (l : List Asd) (y : Int) : Int := if nextOk l y then nextN l y else 0
def nextRB (l : List Asd) (y : Int) : Bool := nextOk l y && nextB l y
set_option maxHeartbeats 4000000 in
theorem specAny_any (a : Option Addr) (n cap : Nat) (l : List Asd) (y : Int) (high : Int) (w : World) (hn : n = l.length) (hr : AsRow w a l) (hl : n ≤ 1048576) :
    Calls Try.prog 20 #[.slice a n cap, .int .i64 y, .int .i64 high] w fun e w' => e = .returned (.tuple #[.bool (anyR l y high), .bool (anyOk l y high)]) ∧ Below w.heap.size w w' := by
  have G := fun (W : World) (h : Below w.heap.size w W) => specGoodF_any a n cap l W hn (hr.below h) hl
  have HN : Hid (n = l.length) := hn
  have HR : Hid (AsRow w a l) := hr
  clear hn hr
  rcases Bool.eq_false_or_eq_true (goodF l) with hg | hg
  rotate_left
  · have HO : Hid (anyOk l y high = false) := by show anyOk l y high = false; unfold anyOk; rw [hg]; rfl
    go_enter Try.func20, Try.ntmps20
    go_wp2_with fail
    refine (G _ (Below.refl _ _)).mono ?_
    rintro e w1 ⟨rfl, b1⟩
    rw [hg]
    clear G
    go_wp2
    go_ret2
    exact ⟨ret_tup2 (by unfold anyR; rw [HO.out]; rfl) (by rw [HO.out]; rfl), b1⟩
  rcases Bool.eq_false_or_eq_true (nearB y) with h0 | h0
  rotate_left
  · have HO : Hid (anyOk l y high = false) := by show anyOk l y high = false; unfold anyOk; simp [h0]
    go_enter Try.func20, Try.ntmps20
    go_wp2_with fail
    refine (G _ (Below.refl _ _)).mono ?_
    rintro e w1 ⟨rfl, b1⟩
    rw [hg]
    clear G
    go_wp2_with fail
    refine (l7Place_any y _).mono ?_
    rintro e w' ⟨rfl, hw'⟩
    subst hw'
    rw [h0]
    go_wp2
    go_ret2
    exact ⟨ret_tup2 (by unfold anyR; rw [HO.out]; rfl) (by rw [HO.out]; rfl), b1⟩
  rcases Bool.eq_false_or_eq_true (extB high) with h1 | h1
  rotate_left
  · have HO : Hid (anyOk l y high = false) := by show anyOk l y high = false; unfold anyOk; simp [h1]
    go_enter Try.func20, Try.ntmps20
    go_wp2_with fail
    refine (G _ (Below.refl _ _)).mono ?_
    rintro e w1 ⟨rfl, b1⟩
    rw [hg]
    clear G
    go_wp2_with fail
    refine (l7Place_any y _).mono ?_
    rintro e w' ⟨rfl, hw'⟩
    subst hw'
    rw [h0]
    go_wp2_with fail
    refine (l7Span_any high _).mono ?_
    rintro e w' ⟨rfl, hw'⟩
    subst hw'
    rw [h1]
    go_wp2
    go_ret2
    exact ⟨ret_tup2 (by unfold anyR; rw [HO.out]; rfl) (by rw [HO.out]; rfl), b1⟩
  have HO : Hid (anyOk l y high = true) := by show anyOk l y high = true; unfold anyOk; rw [hg, h0, h1]; rfl
  have FX : Hid (∀ x ∈ l, Fine x) := fun x hm => goodF_fine hg hm
  go_enter Try.func20, Try.ntmps20
  go_wp2_with fail
  refine (G _ (Below.refl _ _)).mono ?_
  rintro e w1 ⟨rfl, b1⟩
  rw [hg]
  clear G
  go_wp2_with fail
  refine (l7Place_any y _).mono ?_
  rintro e w' ⟨rfl, hw'⟩
  subst hw'
  rw [h0]
  go_wp2_with fail
  refine (l7Span_any high _).mono ?_
  rintro e w' ⟨rfl, hw'⟩
  subst hw'
  rw [h1]
  have yb := inB_yes h0
  have eb := inB_yes h1
  go_wp2_with fail
  refine (l7Any_any a n cap l y high _ HN.out (HR.out.below b1) hl FX.out (by omega) (by omega) (by omega) (by omega)).mono ?_
  rintro e w2 ⟨rfl, c2⟩
  have b2 := b1.trans (c2.mono b1.size)
  clear c2
  go_wp2
  go_ret2
  exact ⟨ret_tup2 (by unfold anyR; rw [HO.out]; rfl) (by rw [HO.out]; rfl), b2⟩
set_option maxHeartbeats 4000000 in
theorem implAny_any (a : Option Addr) (n cap : Nat) (l : List Asd) (y : Int) (high : Int) (w : World) (hn : n = l.length) (hr : AsRow w a l) (hl : n ≤ 1048576) :
    Calls Try.prog 21 #[.slice a n cap, .int .i64 y, .int .i64 high] w fun e w' => e = .returned (.tuple #[.bool (anyR l y high), .bool (anyOk l y high)]) ∧ Below w.heap.size w w' := by
  have G := fun (W : World) (h : Below w.heap.size w W) => implGoodF_any a n cap l W hn (hr.below h) hl
  have HN : Hid (n = l.length) := hn
  have HR : Hid (AsRow w a l) := hr
  clear hn hr
  rcases Bool.eq_false_or_eq_true (goodF l) with hg | hg
  rotate_left
  · have HO : Hid (anyOk l y high = false) := by show anyOk l y high = false; unfold anyOk; rw [hg]; rfl
    go_enter Try.func21, Try.ntmps21
    go_wp2_with fail
    refine (G _ (Below.refl _ _)).mono ?_
    rintro e w1 ⟨rfl, b1⟩
    rw [hg]
    clear G
    go_wp2
    go_ret2
    exact ⟨ret_tup2 (by unfold anyR; rw [HO.out]; rfl) (by rw [HO.out]; rfl), b1⟩
  rcases Bool.eq_false_or_eq_true (nearB y) with h0 | h0
  rotate_left
  · have HO : Hid (anyOk l y high = false) := by show anyOk l y high = false; unfold anyOk; simp [h0]
    go_enter Try.func21, Try.ntmps21
    go_wp2_with fail
    refine (G _ (Below.refl _ _)).mono ?_
    rintro e w1 ⟨rfl, b1⟩
    rw [hg]
    clear G
    go_wp2_with fail
    refine (isNear_any y _).mono ?_
    rintro e w' ⟨rfl, hw'⟩
    subst hw'
    rw [h0]
    go_wp2
    go_ret2
    exact ⟨ret_tup2 (by unfold anyR; rw [HO.out]; rfl) (by rw [HO.out]; rfl), b1⟩
  rcases Bool.eq_false_or_eq_true (extB high) with h1 | h1
  rotate_left
  · have HO : Hid (anyOk l y high = false) := by show anyOk l y high = false; unfold anyOk; simp [h1]
    go_enter Try.func21, Try.ntmps21
    go_wp2_with fail
    refine (G _ (Below.refl _ _)).mono ?_
    rintro e w1 ⟨rfl, b1⟩
    rw [hg]
    clear G
    go_wp2_with fail
    refine (isNear_any y _).mono ?_
    rintro e w' ⟨rfl, hw'⟩
    subst hw'
    rw [h0]
    go_wp2_with fail
    refine (isExtent_any high _).mono ?_
    rintro e w' ⟨rfl, hw'⟩
    subst hw'
    rw [h1]
    go_wp2
    go_ret2
    exact ⟨ret_tup2 (by unfold anyR; rw [HO.out]; rfl) (by rw [HO.out]; rfl), b1⟩
  have HO : Hid (anyOk l y high = true) := by show anyOk l y high = true; unfold anyOk; rw [hg, h0, h1]; rfl
  have FX : Hid (∀ x ∈ l, Fine x) := fun x hm => goodF_fine hg hm
  go_enter Try.func21, Try.ntmps21
  go_wp2_with fail
  refine (G _ (Below.refl _ _)).mono ?_
  rintro e w1 ⟨rfl, b1⟩
  rw [hg]
  clear G
  go_wp2_with fail
  refine (isNear_any y _).mono ?_
  rintro e w' ⟨rfl, hw'⟩
  subst hw'
  rw [h0]
  go_wp2_with fail
  refine (isExtent_any high _).mono ?_
  rintro e w' ⟨rfl, hw'⟩
  subst hw'
  rw [h1]
  have yb := inB_yes h0
  have eb := inB_yes h1
  go_wp2_with fail
  refine (stretchOf_any y high _ (by omega) (by omega) (by omega) (by omega)).mono ?_
  rintro e w2 ⟨rfl, c2⟩
  have b2 := b1.trans (c2.mono b1.size)
  clear c2
  go_wp2_with fail
  refine (holdsAny_any y (endS y high) a n cap l _ HN.out (HR.out.below b2) hl FX.out).mono ?_
  rintro e w3 ⟨rfl, c3⟩
  have b3 := b2.trans (c3.mono b2.size)
  clear c3
  go_wp2
  go_ret2
  exact ⟨ret_tup2 (by unfold anyR; rw [HO.out]; rfl) (by rw [HO.out]; rfl), b3⟩
set_option maxHeartbeats 4000000 in
theorem specNext_any (a : Option Addr) (n cap : Nat) (l : List Asd) (y : Int) (w : World) (hn : n = l.length) (hr : AsRow w a l) (hl : n ≤ 1048576) :
    Calls Try.prog 22 #[.slice a n cap, .int .i64 y] w fun e w' => e = .returned (.tuple #[.int .i64 (nextRN l y), .bool (nextRB l y)]) ∧ Below w.heap.size w w' := by
  have G := fun (W : World) (h : Below w.heap.size w W) => specGoodF_any a n cap l W hn (hr.below h) hl
  have HN : Hid (n = l.length) := hn
  have HR : Hid (AsRow w a l) := hr
  clear hn hr
  rcases Bool.eq_false_or_eq_true (goodF l) with hg | hg
  rotate_left
  · have HO : Hid (nextOk l y = false) := by show nextOk l y = false; unfold nextOk; rw [hg]; rfl
    go_enter Try.func22, Try.ntmps22
    go_wp2_with fail
    refine (G _ (Below.refl _ _)).mono ?_
    rintro e w1 ⟨rfl, b1⟩
    rw [hg]
    clear G
    go_wp2
    go_ret2
    exact ⟨ret_tup2 (by unfold nextRN; rw [HO.out]; rfl) (by unfold nextRB; rw [HO.out]; rfl), b1⟩
  rcases Bool.eq_false_or_eq_true (nearB y) with h0 | h0
  rotate_left
  · have HO : Hid (nextOk l y = false) := by show nextOk l y = false; unfold nextOk; simp [h0]
    go_enter Try.func22, Try.ntmps22
    go_wp2_with fail
    refine (G _ (Below.refl _ _)).mono ?_
    rintro e w1 ⟨rfl, b1⟩
    rw [hg]
    clear G
    go_wp2_with fail
    refine (l7Place_any y _).mono ?_
    rintro e w' ⟨rfl, hw'⟩
    subst hw'
    rw [h0]
    go_wp2
    go_ret2
    exact ⟨ret_tup2 (by unfold nextRN; rw [HO.out]; rfl) (by unfold nextRB; rw [HO.out]; rfl), b1⟩
  have HO : Hid (nextOk l y = true) := by show nextOk l y = true; unfold nextOk; rw [hg, h0]; rfl
  have FX : Hid (∀ x ∈ l, Fine x) := fun x hm => goodF_fine hg hm
  go_enter Try.func22, Try.ntmps22
  go_wp2_with fail
  refine (G _ (Below.refl _ _)).mono ?_
  rintro e w1 ⟨rfl, b1⟩
  rw [hg]
  clear G
  go_wp2_with fail
  refine (l7Place_any y _).mono ?_
  rintro e w' ⟨rfl, hw'⟩
  subst hw'
  rw [h0]
  go_wp2_with fail
  refine (l7Next_any a n cap l y _ HN.out (HR.out.below b1) hl FX.out).mono ?_
  rintro e w2 ⟨rfl, c2⟩
  have b2 := b1.trans (c2.mono b1.size)
  clear c2
  go_wp2
  go_ret2
  exact ⟨ret_tup2 (by unfold nextRN; rw [HO.out]; rfl) (by unfold nextRB; rw [HO.out]; rfl), b2⟩
set_option maxHeartbeats 4000000 in
theorem implNext_any (a : Option Addr) (n cap : Nat) (l : List Asd) (y : Int) (w : World) (hn : n = l.length) (hr : AsRow w a l) (hl : n ≤ 1048576) :
    Calls Try.prog 23 #[.slice a n cap, .int .i64 y] w fun e w' => e = .returned (.tuple #[.int .i64 (nextRN l y), .bool (nextRB l y)]) ∧ Below w.heap.size w w' := by
  have G := fun (W : World) (h : Below w.heap.size w W) => implGoodF_any a n cap l W hn (hr.below h) hl
  have HN : Hid (n = l.length) := hn
  have HR : Hid (AsRow w a l) := hr
  clear hn hr
  rcases Bool.eq_false_or_eq_true (goodF l) with hg | hg
  rotate_left
  · have HO : Hid (nextOk l y = false) := by show nextOk l y = false; unfold nextOk; rw [hg]; rfl
    go_enter Try.func23, Try.ntmps23
    go_wp2_with fail
    refine (G _ (Below.refl _ _)).mono ?_
    rintro e w1 ⟨rfl, b1⟩
    rw [hg]
    clear G
    go_wp2
    go_ret2
    exact ⟨ret_tup2 (by unfold nextRN; rw [HO.out]; rfl) (by unfold nextRB; rw [HO.out]; rfl), b1⟩
  rcases Bool.eq_false_or_eq_true (nearB y) with h0 | h0
  rotate_left
  · have HO : Hid (nextOk l y = false) := by show nextOk l y = false; unfold nextOk; simp [h0]
    go_enter Try.func23, Try.ntmps23
    go_wp2_with fail
    refine (G _ (Below.refl _ _)).mono ?_
    rintro e w1 ⟨rfl, b1⟩
    rw [hg]
    clear G
    go_wp2_with fail
    refine (isNear_any y _).mono ?_
    rintro e w' ⟨rfl, hw'⟩
    subst hw'
    rw [h0]
    go_wp2
    go_ret2
    exact ⟨ret_tup2 (by unfold nextRN; rw [HO.out]; rfl) (by unfold nextRB; rw [HO.out]; rfl), b1⟩
  have HO : Hid (nextOk l y = true) := by show nextOk l y = true; unfold nextOk; rw [hg, h0]; rfl
  have FX : Hid (∀ x ∈ l, Fine x) := fun x hm => goodF_fine hg hm
  go_enter Try.func23, Try.ntmps23
  go_wp2_with fail
  refine (G _ (Below.refl _ _)).mono ?_
  rintro e w1 ⟨rfl, b1⟩
  rw [hg]
  clear G
  go_wp2_with fail
  refine (isNear_any y _).mono ?_
  rintro e w' ⟨rfl, hw'⟩
  subst hw'
  rw [h0]
  go_wp2_with fail
  refine (nextBottom_any a n cap l y _ HN.out (HR.out.below b1) hl FX.out).mono ?_
  rintro e w2 ⟨rfl, c2⟩
  have b2 := b1.trans (c2.mono b1.size)
  clear c2
  go_wp2
  go_ret2
  exact ⟨ret_tup2 (by unfold nextRN; rw [HO.out]; rfl) (by unfold nextRB; rw [HO.out]; rfl), b2⟩
end Go.Proofs.Ytngbkcihdbnlgaa
