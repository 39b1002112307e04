/-
  GoodBoxes of both sides: slices.Equal over boxes, and the model's loop.
-/
import Derived.Test.YtbphninknpfcmaaDoorMgBh
import Derived.Laws.StructEq
namespace Go.Proofs.YtbphninknpfcmaaDoor
open Go.ChangeShapes Go.WideShapes Go.ChangeAt Go.RowKit
set_option linter.unusedVariables false

/-- Whether two boxes are the same. -/
def bxEq (x y : Bx) : Bool := decide (x.kd = y.kd) && decide (x.nd = y.nd) && decide (x.up = y.up) && (x.tx.toList == y.tx.toList)
def sameX (xs ys : List Bx) : Bool := decide (xs.length = ys.length) && (List.range xs.length).all fun i => bxEq (xs.getD i bx0) (ys.getD i bx0)
def allX (xs ys : List Bx) (k : Nat) : Prop := ∀ j, j < k → bxEq (xs.getD j bx0) (ys.getD j bx0) = true
theorem all_next {xs ys : List Bx} {k : Nat} (h : allX xs ys k) (hk : bxEq (xs.getD k bx0) (ys.getD k bx0) = true) : allX xs ys (k + 1) := fun j hj => by
  by_cases e : j = k
  · subst e; exact hk
  · exact h j (by omega)
theorem same_no {xs ys : List Bx} {k : Nat} (hk : k < xs.length) (h : bxEq (xs.getD k bx0) (ys.getD k bx0) = false) : sameX xs ys = false := by
  cases hs : sameX xs ys
  · rfl
  · unfold sameX at hs
    rw [Bool.and_eq_true, List.all_eq_true] at hs
    have := hs.2 k (List.mem_range.2 hk)
    rw [h] at this
    cases this
theorem same_len {xs ys : List Bx} (h : ¬ xs.length = ys.length) : sameX xs ys = false := by unfold sameX; rw [decide_eq_false h]; rfl
theorem same_yes {xs ys : List Bx} (h : xs.length = ys.length) (ha : allX xs ys xs.length) : sameX xs ys = true := by
  unfold sameX
  rw [decide_eq_true h, Bool.true_and, List.all_eq_true]
  exact fun i hi => ha i (List.mem_range.1 hi)
theorem eqBx_held : Tryd.prog.stoodInHeld 76 = false := by kernel_rfl
theorem eqBx_guard : Tryd.prog.eqGuardType Tryd.prog.depth 76 = false := by kernel_rfl
theorem eqBx_fields : Tryd.prog.underlying 76 = some (.struct (Tryd.prog.fieldsOf 76)) := by kernel_rfl
theorem neBx_run (x y : Bx) (w : World) :
    (binOp .neq 76 (.agg #[.int .i64 x.kd, .int .i64 x.nd, .int .i64 x.up, .string x.tx]) (.agg #[.int .i64 y.kd, .int .i64 y.nd, .int .i64 y.up, .string y.tx])).run Tryd.prog w = .ok (.bool (!bxEq x y)) w := by
  rw [run_neq_struct, run_equalIn_agg _ _ _ _ _ eqBx_fields eqBx_held]
  simp only [Program.fieldsOf, Tryd.underlying76]
  unfold bxEq
  by_cases h1 : x.kd = y.kd <;> by_cases h2 : x.nd = y.nd <;> by_cases h3 : x.up = y.up <;> by_cases h4 : x.tx.toList = y.tx.toList <;> simp [Op.eqFields, go_sem, Tryd.underlying3, Tryd.underlying9, h1, h2, h3, h4]

set_option maxRecDepth 100000 in
set_option maxHeartbeats 4000000 in
theorem slEq_some (b off b' off' n cap cap' : Nat) (xs ys : List Bx) (w : World) (hx : n = xs.length) (hy : n = ys.length) (hl : n ≤ 1048576)
    (hc : ∀ i x, xs[i]? = some x → w.rangeAt b (off + i * 4) (bxL x)) (hd : ∀ i x, ys[i]? = some x → w.rangeAt b' (off' + i * 4) (bxL x)) :
    Calls Tryd.prog 43 #[.slice (some ⟨b, off, none⟩) n cap, .slice (some ⟨b', off', none⟩) n cap'] w fun e w' => e = .returned (.bool (sameX xs ys)) ∧ Below w.heap.size w w' := by
  have HC : Hid (∀ i x, xs[i]? = some x → w.rangeAt b (off + i * 4) (bxL x)) := hc
  have HD : Hid (∀ i x, ys[i]? = some x → w.rangeAt b' (off' + i * 4) (bxL x)) := hd
  have HX : Hid (n = xs.length) := hx
  have HY : Hid (n = ys.length) := hy
  clear hc hd hx hy
  go_enter Tryd.func43, Tryd.ntmps43
  go_wp2
  go_loopw [13] (fun i wr => ∃ k : Nat, k ≤ n ∧ i = .int .i64 k ∧ Hid (allX xs ys k) ∧ Below w.heap.size w wr) (fun i _ => n - (intOf i).toNat)
  case atStart => exact ⟨0, Nat.zero_le _, rfl, (fun j hj => by omega : allX xs ys 0), Below.refl _ _⟩
  case round =>
    obtain ⟨k, hk, rfl, hall, hbw⟩ := hrel
    by_cases hlt : k < n
    · obtain ⟨x, hx⟩ : ∃ x, xs[k]? = some x := ⟨_, List.getElem?_eq_getElem (by rw [← HX.out]; exact hlt)⟩
      obtain ⟨y, hy⟩ : ∃ y, ys[k]? = some y := ⟨_, List.getElem?_eq_getElem (by rw [← HY.out]; exact hlt)⟩
      have rx := bx_below (HC.out k x hx) hbw (bx_lt (HC.out k x hx))
      have ry := bx_below (HD.out k y hy) hbw (bx_lt (HD.out k y hy))
      obtain ⟨p0, p1, p2, p3⟩ := bx_cells rx
      obtain ⟨q0, q1, q2, q3⟩ := bx_cells ry
      have HXY : Hid (xs.getD k bx0 = x ∧ ys.getD k bx0 = y) := ⟨by rw [List.getD_eq_getElem?_getD, hx]; rfl, by rw [List.getD_eq_getElem?_getD, hy]; rfl⟩
      have NE := neBx_run x y
      have GD := fun (w : World) (xo yo : Operand) => run_eqGuard_agg (P := Tryd.prog) w .neq 76 xo yo #[.int .i64 x.kd, .int .i64 x.nd, .int .i64 x.up, .string x.tx] #[.int .i64 y.kd, .int .i64 y.nd, .int .i64 y.up, .string y.tx] eqBx_guard
      have hlt' : (k : Int) < (n : Int) := by omega
      clear rx ry hx hy
      cases hq : bxEq x y
      · rw [hq] at NE
        have HF : Hid (sameX xs ys = false) := same_no (by rw [← HX.out]; exact hlt) (by rw [HXY.out.1, HXY.out.2]; exact hq)
        go_wp2
        go_quiet (fail)
        all_goals
          go_wp2
          go_ret
          exact ⟨ret_bool (by rw [HF.out]), below_drewN hbw _⟩
      · rw [hq] at NE
        have HT : Hid (allX xs ys (k + 1)) := all_next hall.out (by rw [HXY.out.1, HXY.out.2]; exact hq)
        go_wp2
        go_quiet (fail)
        all_goals
          go_wp2
          go_roundw
          case rel => exact ⟨k + 1, by omega, by go_num, HT.out, below_drewN hbw _⟩
          case measure => simp [intOf]; omega
    · have HT : Hid (sameX xs ys = true) := same_yes (by rw [← HX.out, ← HY.out]) (by rw [← HX.out]; have h := hall.out; rwa [show k = n by omega] at h)
      go_wp2
      go_ret
      exact ⟨ret_bool (by rw [HT.out]), hbw⟩
set_option maxHeartbeats 1000000 in
theorem slEq_none (a a' : Option Addr) (cap cap' : Nat) (w : World) :
    Calls Tryd.prog 43 #[.slice a 0 cap, .slice a' 0 cap'] w fun e w' => e = .returned (.bool true) ∧ Below w.heap.size w w' := by
  go_enter Tryd.func43, Tryd.ntmps43
  go_wp2
  refine wp_loop_rounds 1 ?_
  rw [rounds_succ]
  go_wp2
  go_ret
  exact ⟨rfl, Below.refl _ _⟩
theorem slEq_len (a a' : Option Addr) (n m cap cap' : Nat) (w : World) (h : ¬ n = m) (hn : n ≤ 1048576) (hm : m ≤ 1048576) :
    Calls Tryd.prog 43 #[.slice a n cap, .slice a' m cap'] w fun e w' => e = .returned (.bool false) ∧ Below w.heap.size w w' := by
  have h1 : ((n : Int) == (m : Int)) = false := by rw [beq_eq_false_iff_ne]; omega
  have h2 : ¬ (n : Int) = (m : Int) := by omega
  go_enter Tryd.func43, Tryd.ntmps43
  go_wp2
  go_ret
  exact ⟨rfl, Below.refl _ _⟩
theorem slEq_any (a a' : Option Addr) (cap cap' : Nat) (xs ys : List Bx) (w : World) (hr : BxRow w a xs) (hr' : BxRow w a' ys) (hl : xs.length ≤ 1048576) (hl' : ys.length ≤ 1048576) :
    Calls Tryd.prog 43 #[.slice a xs.length cap, .slice a' ys.length cap'] w fun e w' => e = .returned (.bool (sameX xs ys)) ∧ Below w.heap.size w w' := by
  by_cases hlen : xs.length = ys.length
  · rcases hr with rfl | ⟨b, off, rfl, hc⟩
    · have h0 : ys = [] := List.eq_nil_of_length_eq_zero hlen.symm
      subst h0
      exact slEq_none a a' cap cap' w
    · rcases hr' with rfl | ⟨b', off', rfl, hd⟩
      · have h0 : xs = [] := List.eq_nil_of_length_eq_zero hlen
        subst h0
        exact slEq_none _ _ cap cap' w
      · have h := slEq_some b off b' off' xs.length cap cap' xs ys w rfl hlen hl hc hd
        rw [← hlen]
        exact h
  · rw [same_len hlen]
    exact slEq_len a a' _ _ cap cap' w hlen hl hl'

def gbB (ns : List Nd) (bs : List Bx) : Bool := boxB ns && sameX (boxR ns) bs
set_option maxRecDepth 100000 in
set_option maxHeartbeats 4000000 in
theorem implGoodBoxes_any (a a' : Option Addr) (cap cap' : Nat) (ns : List Nd) (bs : List Bx) (w : World) (hr : NdRow w a ns) (hl : ns.length ≤ 1048576) (hs : ∀ x ∈ ns, x.tx.size ≤ 1048576) (hr' : BxRow w a' bs) (hl' : bs.length ≤ 1048576)
    (et : TypeId) (ev : Value) (he : w.cell? ⟨0, 0, none⟩ = some (.iface et ev)) :
    Calls Tryd.prog 20 #[.slice a ns.length cap, .slice a' bs.length cap'] w fun e w' => e = .returned (.bool (gbB ns bs)) ∧ Below w.heap.size w w' := by
  have IB := implBoxes_any a cap ns w hr hl hs et ev he
  unfold gbB
  have hb40 := boxR_len ns
  generalize boxR ns = xs at IB hb40 ⊢
  have SL := fun (W : World) (ax : Option Addr) (cx : Nat) (h1 : BxRow W ax xs) (h2 : BxRow W a' bs) => slEq_any ax a' cx cap' xs bs W h1 h2 (by omega) hl'
  generalize ns.length = n at IB ⊢
  have HR' : Hid (BxRow w a' bs) := hr'
  generalize sameX xs bs = r at SL ⊢
  obtain ⟨m, hm⟩ : ∃ m, m = bs.length := ⟨_, rfl⟩
  rw [← hm] at SL ⊢
  obtain ⟨k, hk⟩ : ∃ k, k = xs.length := ⟨_, rfl⟩
  rw [← hk] at SL
  have HK : Hid (k = xs.length) := hk
  clear hr hl hs hr' hl' he hm hk hb40
  cases hB : boxB ns
  · rw [hB] at IB
    clear hB
    go_enter Tryd.func20, Tryd.ntmps20
    go_wp2_with fail
    refine IB.mono ?_
    rintro e w1 ⟨v, rfl, _, hb1⟩
    go_wp2
    go_ret
    exact ⟨rfl, hb1⟩
  · rw [hB] at IB
    clear hB
    rw [Bool.true_and]
    go_enter Tryd.func20, Tryd.ntmps20
    go_wp2_with fail
    refine IB.mono ?_
    rintro e w1 ⟨v, rfl, hox, hb1⟩
    obtain ⟨ax, cx, hv, hrow⟩ := hox.row
    rw [← HK.out] at hv
    subst hv
    have SL1 := SL w1 ax cx hrow (HR'.out.below hb1)
    clear SL IB hox hrow
    go_wp2_with fail
    refine SL1.mono ?_
    rintro e w2 ⟨rfl, hb2⟩
    go_wp2
    go_ret
    exact ⟨rfl, hb1.trans (hb2.mono hb1.size)⟩
set_option maxRecDepth 100000 in
set_option maxHeartbeats 8000000 in
theorem specGoodBoxes_any (a a' : Option Addr) (cap cap' : Nat) (ns : List Nd) (ys : List Bx) (w : World) (hr : NdRow w a ns) (hl : ns.length ≤ 1048576) (hs : ∀ x ∈ ns, x.tx.size ≤ 1048576) (hr' : BxRow w a' ys) (hl' : ys.length ≤ 1048576) :
    Calls Tryd.prog 18 #[.slice a ns.length cap, .slice a' ys.length cap'] w fun e w' => e = .returned (.bool (gbB ns ys)) ∧ Below w.heap.size w w' := by
  have IB := specBoxes_any a cap ns w hr hl hs
  unfold gbB
  have hb40 := boxR_len ns
  generalize boxR ns = xs at IB hb40 ⊢
  generalize ns.length = nl at IB ⊢
  have HR' : Hid (BxRow w a' ys) := hr'
  obtain ⟨m, hm⟩ : ∃ m, m = ys.length := ⟨_, rfl⟩
  rw [← hm] at hl' ⊢
  obtain ⟨n, hn⟩ : ∃ n, n = xs.length := ⟨_, rfl⟩
  rw [← hn] at hb40
  have HX : Hid (n = xs.length) := hn
  have HM : Hid (m = ys.length) := hm
  clear hr hl hs hr' hm hn
  cases hB : boxB ns
  · rw [hB] at IB
    clear hB
    rw [Bool.false_and]
    go_enter Tryd.func18, Tryd.ntmps18
    go_wp2_with fail
    refine IB.mono ?_
    rintro e w1 ⟨v, rfl, _, hb1⟩
    go_wp2
    go_ret
    exact ⟨rfl, hb1⟩
  rw [hB] at IB
  clear hB
  rw [Bool.true_and]
  by_cases hnm : n = m
  rotate_left
  · have HS : Hid (sameX xs ys = false) := same_len (by rw [← HX.out, ← HM.out]; exact hnm)
    have h1 : ((n : Int) == (m : Int)) = false := by rw [beq_eq_false_iff_ne]; omega
    have h2 : ¬ (n : Int) = (m : Int) := by omega
    go_enter Tryd.func18, Tryd.ntmps18
    go_wp2_with fail
    refine IB.mono ?_
    rintro e w1 ⟨v, rfl, hox, hb1⟩
    obtain ⟨ax, cx, hv, _⟩ := hox.row
    rw [← HX.out] at hv
    subst hv
    clear hox IB
    go_wp2
    go_ret
    exact ⟨ret_bool HS.out.symm, hb1⟩
  subst hnm
  have HY : Hid (n = ys.length) := HM.out
  clear HM
  by_cases h0 : n = 0
  · have HS : Hid (sameX xs ys = true) := same_yes (by rw [← HX.out, ← HY.out]) (fun j hj => by rw [← HX.out] at hj; omega)
    subst h0
    go_enter Tryd.func18, Tryd.ntmps18
    go_wp2_with fail
    refine IB.mono ?_
    rintro e w1 ⟨v, rfl, hox, hb1⟩
    obtain ⟨ax, cx, hv, _⟩ := hox.row
    rw [← HX.out] at hv
    subst hv
    clear hox IB
    go_wp2
    refine wp_loop_rounds 1 ?_
    rw [rounds_succ]
    go_wp2
    go_ret
    exact ⟨ret_bool HS.out.symm, hb1⟩
  go_enter Tryd.func18, Tryd.ntmps18
  go_wp2_with fail
  refine IB.mono ?_
  rintro e w1 ⟨v, rfl, hox, hb1⟩
  obtain ⟨ax, cx, hv, hrow⟩ := hox.row
  rw [← HX.out] at hv
  subst hv
  obtain ⟨b, off, rfl, hc⟩ : ∃ b off, ax = some ⟨b, off, none⟩ ∧ ∀ i x, xs[i]? = some x → w1.rangeAt b (off + i * 4) (bxL x) := by
    rcases hrow with h | h
    · exact absurd (by rw [HX.out, h]; rfl) h0
    · exact h
  obtain ⟨b', off', rfl, hd⟩ : ∃ b' off', a' = some ⟨b', off', none⟩ ∧ ∀ i x, ys[i]? = some x → w1.rangeAt b' (off' + i * 4) (bxL x) := by
    rcases HR'.out.below hb1 with h | h
    · exact absurd (by rw [HY.out, h]; rfl) h0
    · exact h
  have HC : Hid (∀ i x, xs[i]? = some x → w1.rangeAt b (off + i * 4) (bxL x)) := hc
  have HD : Hid (∀ i x, ys[i]? = some x → w1.rangeAt b' (off' + i * 4) (bxL x)) := hd
  have HB1 : Hid (Below w.heap.size w w1) := hb1
  clear hc hd hox hrow IB hb1 HR'
  go_wp2
  go_loopw [24] (fun i wr => ∃ k : Nat, k ≤ n ∧ i = .int .i64 k ∧ Hid (allX xs ys k) ∧ Below w1.heap.size w1 wr) (fun i _ => n - (intOf i).toNat)
  case atStart => exact ⟨0, Nat.zero_le _, rfl, (fun j hj => by omega : allX xs ys 0), Below.refl _ _⟩
  case round =>
    obtain ⟨k, hk, rfl, hall, hbw⟩ := hrel
    by_cases hlt : k < n
    · obtain ⟨x, hx⟩ : ∃ x, xs[k]? = some x := ⟨_, List.getElem?_eq_getElem (by rw [← HX.out]; exact hlt)⟩
      obtain ⟨y, hy⟩ : ∃ y, ys[k]? = some y := ⟨_, List.getElem?_eq_getElem (by rw [← HY.out]; exact hlt)⟩
      have rx := bx_below (HC.out k x hx) hbw (bx_lt (HC.out k x hx))
      have ry := bx_below (HD.out k y hy) hbw (bx_lt (HD.out k y hy))
      obtain ⟨p0, p1, p2, p3⟩ := bx_cells rx
      obtain ⟨q0, q1, q2, q3⟩ := bx_cells ry
      have HXY : Hid (xs.getD k bx0 = x ∧ ys.getD k bx0 = y) := ⟨by rw [List.getD_eq_getElem?_getD, hx]; rfl, by rw [List.getD_eq_getElem?_getD, hy]; rfl⟩
      have NE := neBx_run x y
      have GD := fun (w : World) (xo yo : Operand) => run_eqGuard_agg (P := Tryd.prog) w .neq 76 xo yo #[.int .i64 x.kd, .int .i64 x.nd, .int .i64 x.up, .string x.tx] #[.int .i64 y.kd, .int .i64 y.nd, .int .i64 y.up, .string y.tx] eqBx_guard
      have hlt' : (k : Int) < (n : Int) := by omega
      clear rx ry hx hy
      cases hq : bxEq x y
      · rw [hq] at NE
        have HF : Hid (sameX xs ys = false) := same_no (by rw [← HX.out]; exact hlt) (by rw [HXY.out.1, HXY.out.2]; exact hq)
        go_wp2
        go_quiet (fail)
        all_goals
          go_wp2
          go_ret
          exact ⟨ret_bool (by rw [HF.out]), HB1.out.trans (Below.mono (below_drewN hbw _) HB1.out.size)⟩
      · rw [hq] at NE
        have HT : Hid (allX xs ys (k + 1)) := all_next hall.out (by rw [HXY.out.1, HXY.out.2]; exact hq)
        go_wp2
        go_quiet (fail)
        all_goals
          go_wp2
          go_roundw
          case rel => exact ⟨k + 1, by omega, by go_num, HT.out, below_drewN hbw _⟩
          case measure => simp [intOf]; omega
    · have HT : Hid (sameX xs ys = true) := same_yes (by rw [← HX.out, ← HY.out]) (by rw [← HX.out]; have h := hall.out; rwa [show k = n by omega] at h)
      go_wp2
      go_ret
      exact ⟨ret_bool (by rw [HT.out]), HB1.out.trans (hbw.mono HB1.out.size)⟩
end Go.Proofs.YtbphninknpfcmaaDoor
