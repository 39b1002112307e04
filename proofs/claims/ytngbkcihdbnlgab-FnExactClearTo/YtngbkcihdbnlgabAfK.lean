/-
  ClearTo: of the model and of the program, for every row of floats and every two numbers.
-/
import Derived.Test.YtngbkcihdbnlgabAfC
import Derived.Test.YtngbkcihdbnlgabAfH
namespace Go.Proofs.Ytngbkcihdbnlgab
open Go.ChangeShapes Go.WideShapes Go.ChangeAt Go.RowKit
set_option linter.unusedVariables false

def namedB (clear : Int) (x : Asd) : Bool := decide (clear = 3) || decide (clear = x.sd)
def clearN (l : List Asd) (clear y : Int) : Int := mx bot (l.filter (namedB clear)) y
def clearOk (l : List Asd) (clear y : Int) : Bool := goodF l && inB 0 3 clear && nearB y
def clearR (l : List Asd) (clear y : Int) : Int := if clearOk l clear y then clearN l clear y else 0
set_option maxHeartbeats 4000000 in
theorem clear1_any (x : Asd) (g : Nat) (clear : Int) (w : World) (hg : w.cell? ⟨g, 0, none⟩ = some (.int .i64 clear)) :
    Calls Try.prog 26 #[.agg #[.int .i64 x.sd, .int .i64 x.x, .int .i64 x.y, .int .i64 x.w, .int .i64 x.h], .pointer (some ⟨g, 0, none⟩)] w fun e w' => e = .returned (.bool (namedB clear x)) ∧ Below w.heap.size w w' := by
  have hlt : g < w.heap.size := World.block_lt_of_cell? _ _ hg
  have hg1 : (w.alloc (.cells #[.int .i64 x.sd, .int .i64 x.x, .int .i64 x.y, .int .i64 x.w, .int .i64 x.h] 38)).cell? ⟨g, 0, none⟩ = some (.int .i64 clear) := (World.cell?_alloc_lt _ _ _ hlt).trans hg
  have HB : Hid (Below w.heap.size w (w.alloc (.cells #[.int .i64 x.sd, .int .i64 x.x, .int .i64 x.y, .int .i64 x.w, .int .i64 x.h] 38))) := (Below.refl _ _).alloc (Nat.le_refl _) _
  clear hg
  by_cases h3 : clear = 3
  · subst h3
    go_enter Try.func26, Try.ntmps26
    go_wp2
    go_ret
    exact ⟨ret_bool (by unfold namedB; simp), HB.out⟩
  · have HD : Hid (decide (clear = 3) = false) := decide_eq_false h3
    go_enter Try.func26, Try.ntmps26
    go_wp2
    go_ret
    exact ⟨ret_bool (by unfold namedB; rw [HD.out, Bool.false_or]; simp [Bool.beq_eq_decide_eq, h3]), HB.out⟩
theorem fine_aty {y : Int} (h0 : -300000000 ≤ y) (h1 : y ≤ 300000000) : Fine ⟨0, 0, y, 0, 0⟩ := ⟨by simp, by simp, h0, h1, by simp, by simp, by simp, by simp⟩
set_option maxHeartbeats 4000000 in
theorem clearedTo_any (a : Option Addr) (n cap : Nat) (l : List Asd) (clear y : Int) (w : World) (hn : n = l.length) (hr : AsRow w a l) (hl : n ≤ 1048575) (hx : ∀ x ∈ l, Fine x) (hy0 : -300000000 ≤ y) (hy1 : y ≤ 300000000) :
    Calls Try.prog 19 #[.slice a n cap, .int .i64 clear, .int .i64 y] w fun e w' => e = .returned (.int .i64 (clearN l clear y)) ∧ Below w.heap.size w w' := by
  have hmf : ∀ (fn : Fn) (first cap : Array Value) (w : World), (Instr.makeFunc fn first cap).run Try.prog w = .ok (.func fn first cap) w := fun _ _ _ _ => rfl
  have hb1 : Below w.heap.size w (w.alloc (.cells #[.int .i64 clear] 3)) := below_one rfl
  have l1 : (w.alloc (.cells #[.int .i64 clear] 3)).cell? ⟨w.heap.size, 0, none⟩ = some (.int .i64 clear) := cell_at (heap_alloc_new w _) 0 rfl
  have TH := those2_any 26 (.pointer (some ⟨w.heap.size, 0, none⟩)) (enters_of Try.func26 (by kernel_rfl) rfl) (namedB clear) a n cap l (w.alloc (.cells #[.int .i64 clear] 3)) hn (hr.below hb1) (by omega)
    (fun x W hm hb => clear1_any x w.heap.size clear W ((hb.cell (by simp)).trans l1))
  have HA : Hid (clearN l clear y = mx bot (l.filter (namedB clear)) y) := rfl
  have HX : Hid (∀ x ∈ l.filter (namedB clear), Fine x) := fun x hm => hx x (List.mem_filter.1 hm).1
  have hls : (l.filter (namedB clear)).length ≤ 1048575 := Nat.le_trans (List.length_filter_le _ _) (by rw [← hn]; exact hl)
  have HB : Hid (Below w.heap.size w (w.alloc (.cells #[.int .i64 clear] 3))) := hb1
  generalize l.filter (namedB clear) = zs at TH HA HX hls
  clear hn hr hx hb1 l1
  go_enter Try.func19, Try.ntmps19
  go_wp2_with fail
  refine TH.mono ?_
  rintro e w2 ⟨v, rfl, ho, hb⟩
  have b2 : Below w.heap.size w w2 := HB.out.trans (hb.mono (by simp))
  obtain ⟨a2, c2, rfl, hc2, r2, n2, t2⟩ := ho.form
  have t2' : ∀ (o : Obj) b, a2 = some b → ∃ g off, b = ⟨g, off, none⟩ ∧ (w2.alloc o).there g off (c2 * 5) := fun o b hb' => by
    obtain ⟨g, rfl, k1, k2, k3⟩ := t2 b hb'
    exact ⟨g, 0, rfl, as_there_below k3 (below_one rfl) k2⟩
  have t3 : ∀ j, rowIf zs.length c2 a2 = some j → w.heap.size ≤ j := fun j hj => by
    obtain ⟨b, hb', hj'⟩ := rowIf_some hj
    obtain ⟨g, rfl, k1, k2, k3⟩ := t2 b hb'
    simp at hj' k1
    omega
  have n2' : a2 = none → zs.length = 0 ∧ c2 = 0 := fun h => ⟨by rw [(n2 h).1]; rfl, (n2 h).2⟩
  clear hb ho TH HB t2 n2
  obtain ⟨k, hk⟩ : ∃ k, k = zs.length := ⟨_, rfl⟩
  rw [← hk] at hls n2' t3 hc2
  rw [← hk]
  have HK : Hid (k = zs.length) := hk
  clear hk
  have r2' : ∀ o, AsRow (w2.alloc o) a2 zs := fun o => r2.below (below_one rfl)
  go_wp2_with (at_builtin; refine wpList_append_x _ rfl (.tmp 11) (.tmp 14) rfl a2 k c2 zs rfl HK.out (by omega) (r2' _) n2' (fun _ => t2' _) ⟨w2.heap.size, 0, none⟩ ⟨0, 0, y, 0, 0⟩ rfl (five_cells _ ⟨0, 0, y, 0, 0⟩ _ _ rfl) ?_)
  intro g3 off3 c3 w3 hc3 r3 g3' hge3 hlt3
  have b3 : Below w.heap.size w w3 := (b2.alloc b2.size _).grown g3' (by have := b2.size; simp; omega) t3
  have GR := greatest_row 28 (enters_of Try.func28 (by kernel_rfl) rfl) bot g3 off3 (k + 1) c3 zs ⟨0, 0, y, 0, 0⟩ w3 (by rw [← HK.out]) r3 (by omega) hc3 (fun x W hm => bottomOf_b x W (by
    rcases List.mem_append.1 hm with h | h
    · exact HX.out x h
    · rw [List.mem_singleton.1 h]; exact fine_aty hy0 hy1))
  have e1 : bot ⟨0, 0, y, 0, 0⟩ = y := by simp [bot]
  rw [e1, ← HA.out] at GR
  clear r3 r2 r2' t2' t3 g3' hge3 b2 e1
  go_wp2_with fail
  refine GR.mono ?_
  rintro e w4 ⟨rfl, c4⟩
  have b4 := b3.trans (c4.mono b3.size)
  clear GR c4
  go_wp2
  go_ret
  exact ⟨rfl, b4⟩
/-- What is cleared, so far. -/
def ClearTo (l : List Asd) (clear y : Int) (k : Nat) (z : Int) : Prop := z = clearN (l.take k) clear y
theorem clearTo_next {l : List Asd} {clear y : Int} {k : Nat} {z z' : Int} {x : Asd} (h : ClearTo l clear y k z) (hx : l[k]? = some x) (hz : z' = if namedB clear x then max z (x.y + x.h) else z) : ClearTo l clear y (k + 1) z' := by
  unfold ClearTo clearN at *
  rw [hz]
  cases hp : namedB clear x with
  | false => rw [filter_no hx hp, ← h]; rfl
  | true => rw [filter_yes hx hp, mx_snoc, ← h]; rfl
set_option maxHeartbeats 8000000 in
theorem l7Clear_any (a : Option Addr) (n cap : Nat) (l : List Asd) (clear y : Int) (w : World) (hn : n = l.length) (hr : AsRow w a l) (hl : n ≤ 1048576) (hx : ∀ x ∈ l, Fine x) :
    Calls Try.prog 15 #[.slice a n cap, .int .i64 clear, .int .i64 y] w fun e w' => e = .returned (.int .i64 (clearN l clear y)) ∧ Below w.heap.size w w' := by
  have HN : Hid (n = l.length) := hn
  have HR : Hid (AsRow w a l) := hr
  have HF : Hid (∀ x ∈ l, Fine x) := hx
  clear hn hr hx
  go_enter Try.func15, Try.ntmps15
  go_wp2_with fail
  go_loopw [2, 11] (fun u i wr => ∃ (k : Nat) (z : Int), k ≤ n ∧ i = .int .i64 k ∧ u = .int .i64 z ∧ ClearTo l clear y k z ∧ Below w.heap.size w wr) (fun _ i _ => n - (intOf i).toNat)
  case atStart => exact ⟨0, y, Nat.zero_le _, rfl, rfl, rfl, Below.refl _ _⟩
  case round =>
    obtain ⟨k, z, hk, rfl, rfl, hp, hbw⟩ := hrel
    have HP : Hid (ClearTo l clear y k z) := hp
    clear hp
    by_cases hlt : k < n
    rotate_left
    · have HT : Hid (l.take k = l) := List.take_of_length_le (by have := HN.out; omega)
      have HZ : Hid (z = clearN l clear y) := by show z = clearN l clear y; rw [← HT.out]; exact HP.out
      go_wp2
      go_ret
      exact ⟨by rw [← HZ.out]; rfl, hbw⟩
    obtain ⟨x, hx⟩ : ∃ x, l[k]? = some x := ⟨_, List.getElem?_eq_getElem (by have := HN.out; omega)⟩
    obtain ⟨b, off, rfl, hc⟩ := as_some HR.out hx
    have hr := as_below (hc k x hx) hbw (as_lt (hc k x hx))
    obtain ⟨q0, q1, q2, q3, q4⟩ := as_cells hr
    have HX : Hid (l[k]? = some x) := hx
    have fx := HF.out x (List.mem_of_getElem? hx)
    have f0 := fx.y0
    have f1 := fx.y1
    have f2 := fx.h0
    have f3 := fx.h1
    have b2 : ∀ o, Below w.heap.size w (wr.alloc o) := fun o => hbw.alloc hbw.size _
    clear hc hx hr fx
    have HNB : Hid (namedB clear x = (decide (clear = 3) || decide (clear = x.sd))) := rfl
    by_cases h3 : clear = 3
    · subst h3
      have HY : Hid (namedB 3 x = true) := by show namedB 3 x = true; rw [HNB.out]; simp
      by_cases h : z < x.y + x.h
      · go_wp2
        go_roundw
        case rel => exact ⟨k + 1, _, by omega, by go_num, rfl, clearTo_next HP.out HX.out (by rw [HY.out, if_pos rfl]; omega), b2 _⟩
        case measure => simp [intOf]; omega
      · go_wp2
        go_roundw
        case rel => exact ⟨k + 1, _, by omega, by go_num, rfl, clearTo_next HP.out HX.out (by rw [HY.out, if_pos rfl]; omega), b2 _⟩
        case measure => simp [intOf]; omega
    · generalize x.sd = sd at q0 HNB
      by_cases hs : clear = sd
      · subst hs
        have HY : Hid (namedB clear x = true) := by show namedB clear x = true; rw [HNB.out, decide_eq_true rfl, Bool.or_true]
        by_cases h : z < x.y + x.h
        · go_wp2
          go_roundw
          case rel => exact ⟨k + 1, _, by omega, by go_num, rfl, clearTo_next HP.out HX.out (by rw [HY.out, if_pos rfl]; omega), b2 _⟩
          case measure => simp [intOf]; omega
        · go_wp2
          go_roundw
          case rel => exact ⟨k + 1, _, by omega, by go_num, rfl, clearTo_next HP.out HX.out (by rw [HY.out, if_pos rfl]; omega), b2 _⟩
          case measure => simp [intOf]; omega
      · have HY : Hid (namedB clear x = false) := by show namedB clear x = false; rw [HNB.out, decide_eq_false hs, decide_eq_false h3]; rfl
        go_wp2
        go_roundw
        case rel => exact ⟨k + 1, _, by omega, by go_num, rfl, clearTo_next HP.out HX.out (by rw [HY.out]; rfl), b2 _⟩
        case measure => simp [intOf]; omega
set_option maxHeartbeats 4000000 in
theorem specClear_any (a : Option Addr) (n cap : Nat) (l : List Asd) (clear : Int) (y : Int) (w : World) (hn : n = l.length) (hr : AsRow w a l) (hl : n ≤ 1048576) :
    Calls Try.prog 6 #[.slice a n cap, .int .i64 clear, .int .i64 y] w fun e w' => e = .returned (.tuple #[.int .i64 (clearR l clear y), .bool (clearOk l clear y)]) ∧ Below w.heap.size w w' := by
  have G := fun (W : World) (h : Below w.heap.size w W) => specGoodF_any a n cap l W hn (hr.below h) hl
  have HN : Hid (n = l.length) := hn
  have HR : Hid (AsRow w a l) := hr
  clear hn hr
  rcases Bool.eq_false_or_eq_true (goodF l) with hg | hg
  rotate_left
  · have HO : Hid (clearOk l clear y = false) := by show clearOk l clear y = false; unfold clearOk; simp [hg]
    go_enter Try.func6, Try.ntmps6
    go_wp2_with fail
    refine (G _ (Below.refl _ _)).mono ?_
    rintro e w1 ⟨rfl, b1⟩
    rw [hg]
    clear G
    go_wp2
    go_ret2
    exact ⟨ret_tup2 (by unfold clearR; rw [HO.out]; rfl) (by rw [HO.out]; rfl), b1⟩
  rcases Bool.eq_false_or_eq_true (inB 0 3 clear) with h0 | h0
  rotate_left
  · have HO : Hid (clearOk l clear y = false) := by show clearOk l clear y = false; unfold clearOk; simp [h0]
    go_enter Try.func6, Try.ntmps6
    go_wp2_with fail
    refine (G _ (Below.refl _ _)).mono ?_
    rintro e w1 ⟨rfl, b1⟩
    rw [hg]
    clear G
    go_wp2_with fail
    refine (l1In_any clear 0 3 _).mono ?_
    rintro e w' ⟨rfl, hw'⟩
    have hw' := hw'.symm
    subst hw'
    rw [h0]
    go_wp2
    go_ret2
    exact ⟨ret_tup2 (by unfold clearR; rw [HO.out]; rfl) (by rw [HO.out]; rfl), b1⟩
  rcases Bool.eq_false_or_eq_true (nearB y) with h1 | h1
  rotate_left
  · have HO : Hid (clearOk l clear y = false) := by show clearOk l clear y = false; unfold clearOk; simp [h1]
    go_enter Try.func6, Try.ntmps6
    go_wp2_with fail
    refine (G _ (Below.refl _ _)).mono ?_
    rintro e w1 ⟨rfl, b1⟩
    rw [hg]
    clear G
    go_wp2_with fail
    refine (l1In_any clear 0 3 _).mono ?_
    rintro e w' ⟨rfl, hw'⟩
    have hw' := hw'.symm
    subst hw'
    rw [h0]
    go_wp2_with fail
    refine (l7Place_any y _).mono ?_
    rintro e w' ⟨rfl, hw'⟩
    have hw' := hw'.symm
    subst hw'
    rw [h1]
    go_wp2
    go_ret2
    exact ⟨ret_tup2 (by unfold clearR; rw [HO.out]; rfl) (by rw [HO.out]; rfl), b1⟩
  have HO : Hid (clearOk l clear y = true) := by show clearOk l clear y = true; unfold clearOk; simp [hg, h0, h1]
  have FX : Hid (∀ x ∈ l, Fine x) := fun x hm => goodF_fine hg hm
  go_enter Try.func6, Try.ntmps6
  go_wp2_with fail
  refine (G _ (Below.refl _ _)).mono ?_
  rintro e w1 ⟨rfl, b1⟩
  rw [hg]
  clear G
  go_wp2_with fail
  refine (l1In_any clear 0 3 _).mono ?_
  rintro e w' ⟨rfl, hw'⟩
  have hw' := hw'.symm
  subst hw'
  rw [h0]
  go_wp2_with fail
  refine (l7Place_any y _).mono ?_
  rintro e w' ⟨rfl, hw'⟩
  have hw' := hw'.symm
  subst hw'
  rw [h1]
  go_wp2_with fail
  refine (l7Clear_any a n cap l clear y _ HN.out (HR.out.below b1) hl FX.out).mono ?_
  rintro e w2 ⟨rfl, c2⟩
  have b2 := b1.trans (c2.mono b1.size)
  clear c2
  go_wp2
  go_ret2
  exact ⟨ret_tup2 (by unfold clearR; rw [HO.out]; rfl) (by rw [HO.out]; rfl), b2⟩
set_option maxHeartbeats 4000000 in
theorem implClear_any (a : Option Addr) (n cap : Nat) (l : List Asd) (clear : Int) (y : Int) (w : World) (hn : n = l.length) (hr : AsRow w a l) (hl : n ≤ 1048576) :
    Calls Try.prog 8 #[.slice a n cap, .int .i64 clear, .int .i64 y] w fun e w' => e = .returned (.tuple #[.int .i64 (clearR l clear y), .bool (clearOk l clear y)]) ∧ Below w.heap.size w w' := by
  have G := fun (W : World) (h : Below w.heap.size w W) => implGoodF_any a n cap l W hn (hr.below h) hl
  have HN : Hid (n = l.length) := hn
  have HR : Hid (AsRow w a l) := hr
  clear hn hr
  rcases Bool.eq_false_or_eq_true (goodF l) with hg | hg
  rotate_left
  · have HO : Hid (clearOk l clear y = false) := by show clearOk l clear y = false; unfold clearOk; simp [hg]
    go_enter Try.func8, Try.ntmps8
    go_wp2_with fail
    refine (G _ (Below.refl _ _)).mono ?_
    rintro e w1 ⟨rfl, b1⟩
    rw [hg]
    clear G
    go_wp2
    go_ret2
    exact ⟨ret_tup2 (by unfold clearR; rw [HO.out]; rfl) (by rw [HO.out]; rfl), b1⟩
  by_cases c0 : clear < 0
  · have h0 : inB 0 3 clear = false := decide_eq_false (by omega)
    have HO : Hid (clearOk l clear y = false) := by show clearOk l clear y = false; unfold clearOk; simp [h0]
    clear h0
    go_enter Try.func8, Try.ntmps8
    go_wp2_with fail
    refine (G _ (Below.refl _ _)).mono ?_
    rintro e w1 ⟨rfl, b1⟩
    rw [hg]
    clear G
    go_wp2
    go_ret2
    exact ⟨ret_tup2 (by unfold clearR; rw [HO.out]; rfl) (by rw [HO.out]; rfl), b1⟩
  by_cases c1 : 3 < clear
  · have h0 : inB 0 3 clear = false := decide_eq_false (by omega)
    have HO : Hid (clearOk l clear y = false) := by show clearOk l clear y = false; unfold clearOk; simp [h0]
    clear h0
    go_enter Try.func8, Try.ntmps8
    go_wp2_with fail
    refine (G _ (Below.refl _ _)).mono ?_
    rintro e w1 ⟨rfl, b1⟩
    rw [hg]
    clear G
    go_wp2
    go_ret2
    exact ⟨ret_tup2 (by unfold clearR; rw [HO.out]; rfl) (by rw [HO.out]; rfl), b1⟩
  have h0 : inB 0 3 clear = true := decide_eq_true (by omega)
  rcases Bool.eq_false_or_eq_true (nearB y) with h1 | h1
  rotate_left
  · have HO : Hid (clearOk l clear y = false) := by show clearOk l clear y = false; unfold clearOk; simp [h1]
    go_enter Try.func8, Try.ntmps8
    go_wp2_with fail
    refine (G _ (Below.refl _ _)).mono ?_
    rintro e w1 ⟨rfl, b1⟩
    rw [hg]
    clear G
    go_wp2_with fail
    refine (isNear_any y _).mono ?_
    rintro e w' ⟨rfl, hw'⟩
    have hw' := hw'.symm
    subst hw'
    rw [h1]
    go_wp2
    go_ret2
    exact ⟨ret_tup2 (by unfold clearR; rw [HO.out]; rfl) (by rw [HO.out]; rfl), b1⟩
  have HO : Hid (clearOk l clear y = true) := by show clearOk l clear y = true; unfold clearOk; simp [hg, h0, h1]
  have FX : Hid (∀ x ∈ l, Fine x) := fun x hm => goodF_fine hg hm
  have hl40 := goodF_len hg
  go_enter Try.func8, Try.ntmps8
  go_wp2_with fail
  refine (G _ (Below.refl _ _)).mono ?_
  rintro e w1 ⟨rfl, b1⟩
  rw [hg]
  clear G
  go_wp2_with fail
  refine (isNear_any y _).mono ?_
  rintro e w' ⟨rfl, hw'⟩
  have hw' := hw'.symm
  subst hw'
  rw [h1]
  have yb := inB_yes h1
  go_wp2_with fail
  refine (clearedTo_any a n cap l clear y _ HN.out (HR.out.below b1) (by have := HN.out; omega) FX.out (by omega) (by omega)).mono ?_
  rintro e w2 ⟨rfl, c2⟩
  have b2 := b1.trans (c2.mono b1.size)
  clear c2
  go_wp2
  go_ret2
  exact ⟨ret_tup2 (by unfold clearR; rw [HO.out]; rfl) (by rw [HO.out]; rfl), b2⟩
end Go.Proofs.Ytngbkcihdbnlgab
