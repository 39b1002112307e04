/-
  The program's tellLength and tellSize: a value's text, or a fault.
  The program's tellSize, and its method 'tell' on a size and on a length.
  The program's method 'tell' on a size and on a length.
-/
import Derived.Test.YtdgagjnkbmckoaaGreatDoorMText
import Derived.Test.YtdgagjnkbmckoaaGreatDoorStyN
import Derived.Test.YtdgagjnkbmckoaaGreatDoorMapLit
import Derived.LoopN
namespace Go.Proofs.YtdgagjnkbmckoaaGreatDoor
open Go.ChangeShapes Go.WideShapes Go.ChangeAt Go.RowKit
set_option linter.unusedVariables false

def numI (n : Int) : ByteArray := ⟨(Lib.itoa n).toArray⟩
def toldB (a p : Bool) (n : Int) : Bool := if a then true else if p then decide (n.tmod 100 = 0) else pixB n
def toldT (a p : Bool) (n : Int) : ByteArray := if a then ⟨#[97, 117, 116, 111]⟩ else if p then numI (n.tdiv 100) ++ ⟨#[37]⟩ else pixText n

/-- What the program reads beside its arguments: the table of quarters, the library's table of powers, the two sentinel errors. -/
structure Env (w : World) : Prop where
  q : Quarters w
  t : Lib.TabIs Tryz.prog w "internal/strconv.uint64pow10" .u64 Lib.pow10Tab
  e : ∃ et ev, w.cell? ⟨3, 0, none⟩ = some (.iface et ev)
  b : ∃ et ev, w.cell? ⟨2, 0, none⟩ = some (.iface et ev)
theorem gPow : Tryz.prog.globalNamed "internal/strconv.uint64pow10" = some 7 := by kernel_rfl
theorem cell_lt {w : World} {b o : Nat} {v : Value} (h : w.cell? ⟨b, o, none⟩ = some v) : b < w.heap.size := World.block_lt_of_cell? _ ⟨b, o, none⟩ h
theorem Env.below {w w' : World} {B : Nat} (E : Env w) (hb : Below B w w') (hB : w.heap.size ≤ B) : Env w' := by
  have hb := hb.mono hB
  obtain ⟨et, ev, he⟩ := E.e
  obtain ⟨bt, bv, hbb⟩ := E.b
  exact ⟨⟨Nat.lt_of_lt_of_le E.q.1 hb.size, fun j hj => (hb.cell (cell_lt (E.q.2 j hj))).trans (E.q.2 j hj)⟩, var?_below hb gPow (cell_lt (E.t.cell gPow 0 (by decide))) E.t, ⟨et, ev, (hb.cell (p := ⟨3, 0, none⟩) (cell_lt he)).trans he⟩, ⟨bt, bv, (hb.cell (p := ⟨2, 0, none⟩) (cell_lt hbb)).trans hbb⟩⟩

/-- A text and no fault, or no text and a fault. -/
def Told (ok : Bool) (t : ByteArray) (e : Ending) : Prop := (ok = true ∧ e = .returned (.tuple #[.string t, .nilIface])) ∨ (ok = false ∧ ∃ x v, e = .returned (.tuple #[.string ⟨#[]⟩, .iface x v]))

set_option maxHeartbeats 2000000 in
theorem tellLength_any (n : Int) (w : World) (E : Env w) :
    Calls Tryz.prog 54 #[.int .i64 n] w fun e w' => Told (pixB n) (pixText n) e ∧ Below w.heap.size w w' := by
  have I := implText_any n w E.q E.t
  obtain ⟨et, ev, he⟩ := E.e
  have lte := cell_lt he
  cases h : pixB n
  · rw [h] at I
    generalize pixText n = t at I ⊢
    have HE : Hid (w.cell? ⟨3, 0, none⟩ = some (.iface et ev)) := he
    clear E he
    go_enter Tryz.func54, Tryz.ntmps54
    go_wp2_with (go_at_call 64; refine I.mono ?_; rintro e w1 ⟨rfl, hb⟩; have c1 : w1.cell? ⟨3, 0, none⟩ = some (.iface et ev) := (hb.cell (p := ⟨3, 0, none⟩) lte).trans HE.out)
    go_quiet (fail)
    all_goals
      go_wp2
      go_ret2
      exact ⟨.inr ⟨rfl, _, _, rfl⟩, below_drewN hb _⟩
  · rw [h] at I
    generalize pixText n = t at I ⊢
    clear E he
    go_enter Tryz.func54, Tryz.ntmps54
    go_wp2_with (go_at_call 64; refine I.mono ?_; rintro e w1 ⟨rfl, hb⟩)
    go_ret2
    exact ⟨.inl ⟨rfl, rfl⟩, hb⟩
end Go.Proofs.YtdgagjnkbmckoaaGreatDoor

namespace Go.Proofs.YtdgagjnkbmckoaaGreatDoor
open Go.ChangeShapes Go.WideShapes Go.ChangeAt Go.RowKit
set_option linter.unusedVariables false

theorem itoaI_any (n : Int) (h0 : -9223372036854775808 ≤ n) (h1 : n ≤ 9223372036854775807) (w : World) (htab : Lib.TabIs Tryz.prog w "internal/strconv.uint64pow10" .u64 Lib.pow10Tab) :
    Calls Tryz.prog 63 #[.int .i64 n] w fun e w' => e = .returned (.string (numI n)) ∧ Below w.heap.size w w' := by
  refine (Tryz.strconv_Itoa n h0 h1 w htab).mono ?_
  rintro e w' ⟨rfl, k, os, rfl⟩
  exact ⟨rfl, below_grow w k os⟩
theorem numI_size (n : Int) (h0 : -1000000 ≤ n) (h1 : n ≤ 1000000) : (numI n).size ≤ 20 := by
  have hs := num_size n.natAbs (by omega)
  unfold num at hs
  unfold numI Lib.itoa
  split
  · show (45 :: Lib.decDigits n.natAbs).toArray.size ≤ 20
    have : (Lib.decDigits n.natAbs).toArray.size ≤ 19 := hs
    simp at this ⊢
    omega
  · have e : n.toNat = n.natAbs := by omega
    rw [e]
    exact Nat.le_trans hs (by omega)

set_option maxHeartbeats 2000000 in
theorem tellSize_any (a p : Bool) (n : Int) (w : World) (E : Env w) (g0 : -1000000 ≤ n) (g1 : n ≤ 1000000) :
    Calls Tryz.prog 53 #[.agg #[.bool a, .bool p, .int .i64 n]] w fun e w' => Told (toldB a p n) (toldT a p n) e ∧ Below w.heap.size w w' := by
  have bel0 : Below w.heap.size w (w.alloc (.cells #[.bool a, .bool p, .int .i64 n] 23)) := (Below.refl _ _).alloc (Nat.le_refl _) _
  cases a
  · cases p
    · have TL := tellLength_any n (w.alloc (.cells #[.bool false, .bool false, .int .i64 n] 23)) (E.below bel0 (Nat.le_refl _))
      have et : toldT false false n = pixText n := rfl
      have eb : toldB false false n = pixB n := rfl
      rw [et, eb]
      generalize pixText n = t at TL ⊢
      generalize pixB n = k at TL ⊢
      clear E et eb
      go_enter Tryz.func53, Tryz.ntmps53
      go_wp2_with (go_at_call 54; refine TL.mono ?_; rintro e w1 ⟨he, hb⟩; rcases he with ⟨hk, rfl⟩ | ⟨hk, x, v, rfl⟩)
      · go_ret2
        exact ⟨.inl ⟨hk, rfl⟩, bel0.trans (hb.mono (by simp))⟩
      · go_ret2
        exact ⟨.inr ⟨hk, x, v, rfl⟩, bel0.trans (hb.mono (by simp))⟩
    · by_cases hn : n.tmod 100 = 0
      · have hq : 100 * n.tdiv 100 + n.tmod 100 = n := Int.mul_tdiv_add_tmod n 100
        rw [hn] at hq
        have hq : Hid (100 * n.tdiv 100 + 0 = n) ∧ -1000000 ≤ n.tdiv 100 ∧ n.tdiv 100 ≤ 1000000 := ⟨hq, by omega, by omega⟩
        obtain ⟨_, q0, q1⟩ := hq
        have F1 : IntKind.i64.wrap (n.tdiv 100) = n.tdiv 100 := wrapI _ (by omega) (by omega)
        have IT := itoaI_any (n.tdiv 100) (by omega) (by omega) (w.alloc (.cells #[.bool false, .bool true, .int .i64 n] 23)) (E.below bel0 (Nat.le_refl _)).t
        have hs := numI_size (n.tdiv 100) (by omega) (by omega)
        have et : toldT false true n = numI (n.tdiv 100) ++ ⟨#[37]⟩ := rfl
        have eb : toldB false true n = true := decide_eq_true hn
        rw [et, eb]
        generalize numI (n.tdiv 100) = t at IT hs ⊢
        clear E et eb
        go_enter Tryz.func53, Tryz.ntmps53
        go_wp2_with (go_at_call 63; refine IT.mono ?_; rintro e w1 ⟨rfl, hb⟩)
        go_ret2
        exact ⟨.inl ⟨rfl, rfl⟩, bel0.trans (hb.mono (by simp))⟩
      · obtain ⟨et, ev, he⟩ := (E.below bel0 (Nat.le_refl _)).e
        have eb : toldB false true n = false := decide_eq_false hn
        have h3 : (n.tmod 100 == 0) = false := by simpa using hn
        rw [eb]
        clear E eb
        go_enter Tryz.func53, Tryz.ntmps53
        go_wp2
        go_quiet (fail)
        all_goals
          go_wp2
          go_ret2
          exact ⟨.inr ⟨rfl, _, _, rfl⟩, below_drewN bel0 _⟩
  · clear E
    go_enter Tryz.func53, Tryz.ntmps53
    go_wp2
    go_ret2
    exact ⟨.inl ⟨rfl, rfl⟩, bel0⟩
end Go.Proofs.YtdgagjnkbmckoaaGreatDoor

namespace Go.Proofs.YtdgagjnkbmckoaaGreatDoor
open Go.ChangeShapes Go.WideShapes Go.ChangeAt Go.RowKit
set_option linter.unusedVariables false

set_option maxHeartbeats 2000000 in
theorem tellS_any (nm : ByteArray) (b o : Nat) (lo hi n : Int) (np a p : Bool) (w : World) (E : Env w) (g0 : -1000000 ≤ n) (g1 : n ≤ 1000000) (hc0 : w.cell? ⟨b, o, none⟩ = some (.bool a)) (hc1 : w.cell? ⟨b, o + 1, none⟩ = some (.bool p)) (hc2 : w.cell? ⟨b, o + 2, none⟩ = some (.int .i64 n)) :
    Calls Tryz.prog 41 #[.agg #[.string nm, .pointer none, .pointer (some ⟨b, o, none⟩), .int .i64 lo, .int .i64 hi, .bool np]] w fun e w' => Told (toldB a p n) (toldT a p n) e ∧ Below w.heap.size w w' := by
  have hb : b < w.heap.size := World.block_lt_of_cell? _ ⟨b, o, none⟩ hc0
  have bel0 : Below w.heap.size w (w.alloc (.cells #[.string nm, .pointer none, .pointer (some ⟨b, o, none⟩), .int .i64 lo, .int .i64 hi, .bool np] 59)) := (Below.refl _ _).alloc (Nat.le_refl _) _
  have TZ := tellSize_any a p n (w.alloc (.cells #[.string nm, .pointer none, .pointer (some ⟨b, o, none⟩), .int .i64 lo, .int .i64 hi, .bool np] 59)) (E.below bel0 (Nat.le_refl _)) g0 g1
  generalize toldT a p n = t at TZ ⊢
  generalize toldB a p n = k at TZ ⊢
  clear E
  go_enter Tryz.func41, Tryz.ntmps41
  go_wp2_with (go_at_call 53; refine TZ.mono ?_; rintro e w1 ⟨he, hb1⟩; rcases he with ⟨hk, rfl⟩ | ⟨hk, x, v, rfl⟩)
  · go_ret2
    exact ⟨.inl ⟨hk, rfl⟩, bel0.trans (hb1.mono (by simp))⟩
  · go_ret2
    exact ⟨.inr ⟨hk, x, v, rfl⟩, bel0.trans (hb1.mono (by simp))⟩

set_option maxRecDepth 100000 in
set_option maxHeartbeats 2000000 in
theorem tellL_any (nm : ByteArray) (b o : Nat) (lo hi n : Int) (np : Bool) (w : World) (E : Env w) (hc : w.cell? ⟨b, o, none⟩ = some (.int .i64 n))
    (WO : ∀ w, Calls Tryz.prog 48 #[.string nm] w fun e w' => e = .returned (.map none) ∧ w' = w) :
    Calls Tryz.prog 41 #[.agg #[.string nm, .pointer (some ⟨b, o, none⟩), .pointer none, .int .i64 lo, .int .i64 hi, .bool np]] w fun e w' => Told (pixB n) (pixText n) e ∧ Below w.heap.size w w' := by
  have hb : b < w.heap.size := World.block_lt_of_cell? _ ⟨b, o, none⟩ hc
  have hne : ¬ b = w.heap.size + 1 := by omega
  have bel0 : Below w.heap.size w ((w.alloc (.cells #[.string nm, .pointer (some ⟨b, o, none⟩), .pointer none, .int .i64 lo, .int .i64 hi, .bool np] 59)).alloc (.mapIter none 0 #[] 0)) := ((Below.refl _ _).alloc (Nat.le_refl _) _).alloc (by simp) _
  have TZ := tellLength_any n ((w.alloc (.cells #[.string nm, .pointer (some ⟨b, o, none⟩), .pointer none, .int .i64 lo, .int .i64 hi, .bool np] 59)).alloc (.mapIter none 0 #[] 0)) (E.below bel0 (Nat.le_refl _))
  generalize pixText n = t at TZ ⊢
  generalize pixB n = k at TZ ⊢
  have hrg := run_range_nilMap (P := Tryz.prog) (w.alloc (.cells #[.string nm, .pointer (some ⟨b, o, none⟩), .pointer none, .int .i64 lo, .int .i64 hi, .bool np] 59)) 94 9 3 Tryz.underlying94
  have hnx : ∀ ty, (Instr.next (.pointer (some ⟨(w.alloc (.cells #[.string nm, .pointer (some ⟨b, o, none⟩), .pointer none, .int .i64 lo, .int .i64 hi, .bool np] 59)).heap.size, 0, none⟩)) false ty).run Tryz.prog ((w.alloc (.cells #[.string nm, .pointer (some ⟨b, o, none⟩), .pointer none, .int .i64 lo, .int .i64 hi, .bool np] 59)).alloc (.mapIter none 0 #[] 0)) = _ := fun ty => run_next_nilMap (w.alloc (.cells #[.string nm, .pointer (some ⟨b, o, none⟩), .pointer none, .int .i64 lo, .int .i64 hi, .bool np] 59)) ty 0 0 #[]
  have hsz : (w.alloc (.cells #[.string nm, .pointer (some ⟨b, o, none⟩), .pointer none, .int .i64 lo, .int .i64 hi, .bool np] 59)).heap.size = w.heap.size + 1 := by simp
  rw [hsz] at hrg hnx
  clear E hsz
  go_enter Tryz.func41, Tryz.ntmps41
  go_wp2_with (go_at_call 48; refine (WO _).mono ?_; rintro e w1 ⟨rfl, rfl⟩)
  refine wp_loop_rounds 1 ?_
  rw [rounds_succ]
  go_wp2_with (go_at_call 54; refine TZ.mono ?_; rintro e w1 ⟨he, hb1⟩; rcases he with ⟨hk, rfl⟩ | ⟨hk, x, v, rfl⟩)
  · go_ret2
    exact ⟨.inl ⟨hk, rfl⟩, bel0.trans (hb1.mono (by simp; omega))⟩
  · go_ret2
    exact ⟨.inr ⟨hk, x, v, rfl⟩, bel0.trans (hb1.mono (by simp; omega))⟩
end Go.Proofs.YtdgagjnkbmckoaaGreatDoor
