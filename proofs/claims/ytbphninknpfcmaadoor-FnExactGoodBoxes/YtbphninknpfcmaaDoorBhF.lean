/-
  The law's sizes of nodes and boxes, one behind the other.
-/
import Derived.Test.YtbphninknpfcmaaDoorBhE
import Derived.Test.YtbphninknpfcmaaDoorNdG
namespace Go.Proofs.YtbphninknpfcmaaDoor
open Go.ChangeShapes Go.WideShapes Go.ChangeAt Go.RowKit
set_option linter.unusedVariables false

set_option maxRecDepth 100000 in
set_option maxHeartbeats 2000000 in
theorem szNodes_le (a : Option Addr) (n cap : Nat) (ns : List Nd) (w : World) (hn : ns.length = n) (hr : NdRow w a ns) (hl : n ≤ maxLen) (hs : ∀ x ∈ ns, x.tx.size ≤ maxLen) :
    Calls Tryd.prog 8 #[.slice a n cap, .int .i64 1048576] w fun e w' => (∃ z : Int, e = .returned (.int .i64 z) ∧ szOk ns z ∧ z ≤ 1048576) ∧ Below w.heap.size w w' := by
  unfold maxLen at hl
  by_cases hbig : (1048576 : Int) < (n : Int)
  · have hq : (1048576 : Int) - (n : Int) < 0 := by omega
    clear hr
    go_enter Tryd.func8, Tryd.ntmps8
    go_wp2
    go_ret
    exact ⟨⟨_, rfl, Or.inl rfl, by omega⟩, Below.refl _ _⟩
  have hq : ¬ ((1048576 : Int) - (n : Int) < 0) := by omega
  have HR : Hid (NdRow w a ns) := hr
  have HS : Hid (∀ x ∈ ns, x.tx.size ≤ maxLen) := hs
  clear hr hs
  go_enter Tryd.func8, Tryd.ntmps8
  go_wp2_with fail
  clear hq
  go_loopw [1, 5] (fun z i wr => ∃ (k : Nat) (l : Int), k ≤ n ∧ i = .int .i64 k ∧ z = .int .i64 l ∧ 0 ≤ l ∧ l ≤ 1048576 ∧ (∀ j x, j < k → ns[j]? = some x → x.tx.size ≤ 1048576) ∧ Below w.heap.size w wr) (fun _ i _ => n - (intOf i).toNat)
  case atStart => exact ⟨0, _, Nat.zero_le _, rfl, rfl, by omega, by omega, fun j x hj => absurd hj (by omega), Below.refl _ _⟩
  case round =>
    obtain ⟨k, l, hk, rfl, rfl, h0, h1, hp, hbw⟩ := hrel
    have HP : Hid (∀ j x, j < k → ns[j]? = some x → x.tx.size ≤ 1048576) := hp
    clear hp
    by_cases hlt : k < n
    · obtain ⟨x, hx⟩ : ∃ x, ns[k]? = some x := ⟨_, List.getElem?_eq_getElem (by omega)⟩
      obtain ⟨b, off, rfl, hc⟩ : ∃ b off, a = some ⟨b, off, none⟩ ∧ ∀ i n, ns[i]? = some n → w.rangeAt b (off + i * 28) (ndL n) := by
        rcases HR.out with h | h
        · rw [h] at hx; simp at hx
        · exact h
      have hr0 := hc k x hx
      have hr := range_below hr0 hbw (range_lt hr0)
      have SN := fun W => szNode_any x l W h0 h1 (HS.out x (List.mem_of_getElem? hx))
      clear hr0 hc HR
      by_cases hle : (x.tx.size : Int) ≤ l
      · rw [if_pos hle] at SN
        have hge : ¬ (l - (x.tx.size : Int) < 0) := by omega
        go_wp2_with (with_reducible show wpList _ _ _ (⟨some 21, Op.load 62 _, _, _, _, _⟩ :: _) _ _; refine wpList_load_mid rfl 62 _ rfl b (off + k * 28) rfl (ndL x) _ hr Tryd.underlying62 rfl (by kernel_rfl) ?_)
        refine (SN _).mono ?_
        rintro e w2 ⟨rfl, hb⟩
        have B2 := hbw.trans (hb.mono hbw.size)
        clear hr hb hbw SN
        go_wp2
        go_roundw
        case rel => exact ⟨k + 1, _, by omega, by go_num, rfl, by omega, by omega, fun j y hj hy => szStep hx (by omega) HP.out j y hj hy, B2⟩
        case measure => simp [intOf]; omega
      · rw [if_neg hle] at SN
        go_wp2_with (with_reducible show wpList _ _ _ (⟨some 21, Op.load 62 _, _, _, _, _⟩ :: _) _ _; refine wpList_load_mid rfl 62 _ rfl b (off + k * 28) rfl (ndL x) _ hr Tryd.underlying62 rfl (by kernel_rfl) ?_)
        refine (SN _).mono ?_
        rintro e w2 ⟨rfl, hb⟩
        have B2 := hbw.trans (hb.mono hbw.size)
        clear hr hb hbw SN
        go_wp2
        go_ret
        exact ⟨⟨_, rfl, Or.inl rfl, by omega⟩, B2⟩
    · go_wp2
      go_ret
      exact ⟨⟨_, rfl, Or.inr ⟨h0, by omega, fun i x hx => HP.out i x (by have := (List.getElem?_eq_some_iff.1 hx).1; omega) hx⟩, h1⟩, hbw⟩

set_option maxRecDepth 100000 in
set_option maxHeartbeats 2000000 in
theorem szBoxes_left (left : Int) (a : Option Addr) (n cap : Nat) (ns : List Bx) (w : World) (hn : ns.length = n) (hr : BxRow w a ns) (hl : n ≤ maxLen) (hs : ∀ x ∈ ns, x.tx.size ≤ maxLen) (hl0 : 0 ≤ left) (hl1 : left ≤ 1048576) :
    Calls Tryd.prog 17 #[.slice a n cap, .int .i64 left] w fun e w' => (∃ z : Int, e = .returned (.int .i64 z) ∧ szOkX ns z) ∧ Below w.heap.size w w' := by
  unfold maxLen at hl
  by_cases hbig : left < (n : Int)
  · have hq : left - (n : Int) < 0 := by omega
    clear hr
    go_enter Tryd.func17, Tryd.ntmps17
    go_wp2
    go_ret
    exact ⟨⟨_, rfl, Or.inl rfl⟩, Below.refl _ _⟩
  have hq : ¬ (left - (n : Int) < 0) := by omega
  have HR : Hid (BxRow w a ns) := hr
  have HS : Hid (∀ x ∈ ns, x.tx.size ≤ maxLen) := hs
  clear hr hs
  go_enter Tryd.func17, Tryd.ntmps17
  go_wp2_with fail
  clear hq
  go_loopw [1, 5] (fun z i wr => ∃ (k : Nat) (l : Int), k ≤ n ∧ i = .int .i64 k ∧ z = .int .i64 l ∧ 0 ≤ l ∧ l ≤ 1048576 ∧ (∀ j x, j < k → ns[j]? = some x → x.tx.size ≤ 1048576) ∧ Below w.heap.size w wr) (fun _ i _ => n - (intOf i).toNat)
  case atStart => exact ⟨0, _, Nat.zero_le _, rfl, rfl, by omega, by omega, fun j x hj => absurd hj (by omega), Below.refl _ _⟩
  case round =>
    obtain ⟨k, l, hk, rfl, rfl, h0, h1, hp, hbw⟩ := hrel
    have HP : Hid (∀ j x, j < k → ns[j]? = some x → x.tx.size ≤ 1048576) := hp
    clear hp
    by_cases hlt : k < n
    · obtain ⟨x, hx⟩ : ∃ x, ns[k]? = some x := ⟨_, List.getElem?_eq_getElem (by omega)⟩
      obtain ⟨b, off, rfl, hc⟩ : ∃ b off, a = some ⟨b, off, none⟩ ∧ ∀ i n, ns[i]? = some n → w.rangeAt b (off + i * 4) (bxL n) := by
        rcases HR.out with h | h
        · rw [h] at hx; simp at hx
        · exact h
      have hr0 := hc k x hx
      have hr := bx_below hr0 hbw (bx_lt hr0)
      have SN := fun W => szBox_any x l W h0 h1 (HS.out x (List.mem_of_getElem? hx))
      clear hr0 hc HR
      by_cases hle : (x.tx.size : Int) ≤ l
      · rw [if_pos hle] at SN
        have hge : ¬ (l - (x.tx.size : Int) < 0) := by omega
        go_wp2_with (with_reducible show wpList _ _ _ (⟨some 21, Op.load 80 _, _, _, _, _⟩ :: _) _ _; refine wpList_load_mid rfl 80 _ rfl b (off + k * 4) rfl (bxL x) _ hr Tryd.underlying80 rfl (by kernel_rfl) ?_)
        refine (SN _).mono ?_
        rintro e w2 ⟨rfl, hb⟩
        have B2 := hbw.trans (hb.mono hbw.size)
        clear hr hb hbw SN
        go_wp2
        go_roundw
        case rel => exact ⟨k + 1, _, by omega, by go_num, rfl, by omega, by omega, fun j y hj hy => szStepX hx (by omega) HP.out j y hj hy, B2⟩
        case measure => simp [intOf]; omega
      · rw [if_neg hle] at SN
        go_wp2_with (with_reducible show wpList _ _ _ (⟨some 21, Op.load 80 _, _, _, _, _⟩ :: _) _ _; refine wpList_load_mid rfl 80 _ rfl b (off + k * 4) rfl (bxL x) _ hr Tryd.underlying80 rfl (by kernel_rfl) ?_)
        refine (SN _).mono ?_
        rintro e w2 ⟨rfl, hb⟩
        have B2 := hbw.trans (hb.mono hbw.size)
        clear hr hb hbw SN
        go_wp2
        go_ret
        exact ⟨⟨_, rfl, Or.inl rfl⟩, B2⟩
    · go_wp2
      go_ret
      exact ⟨⟨_, rfl, Or.inr ⟨h0, by omega, fun i x hx => HP.out i x (by have := (List.getElem?_eq_some_iff.1 hx).1; omega) hx⟩⟩, hbw⟩

end Go.Proofs.YtbphninknpfcmaaDoor
