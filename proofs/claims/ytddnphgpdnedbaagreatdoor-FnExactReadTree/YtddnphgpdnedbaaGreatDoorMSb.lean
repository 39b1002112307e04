/-
  When a style is good, as a Bool function of its fields; contracts of the model's small functions on numbers and sizes, and of the program's method 'good' on one thing of a style.
  The program's method 'good' on one thing of a style: a number between its limits; a size by its own rule.
  The model's GoodStyle, for every style.
  The model's GoodStyle, for every style: behind its first test.
-/
import Derived.Test.YtddnphgpdnedbaaGreatDoorMAd
import Derived.Test.YtddnphgpdnedbaaGreatDoorSty
import Derived.Deep.RegionHeld3
namespace Go.Proofs.YtddnphgpdnedbaaGreatDoor
open Go.ChangeShapes Go.WideShapes Go.ChangeAt Go.RowKit
set_option linter.unusedVariables false

def szB (a p : Bool) (n : Int) : Bool := if a then (!p && decide (n = 0)) else if p then inB (-100000) 100000 n else inB (-1000000) 1000000 n

theorem l3White_any (n : Int) (w : World) : Calls Tryz.prog 68 #[.int .i64 n] w fun e w' => e = .returned (.bool (inB 1 5 n)) ∧ w' = w := by
  go_enter Tryz.func68, Tryz.ntmps68
  go_wp2_with (go_at_call 44; refine (l1In_any _ _ _ _).mono ?_; rintro e w' ⟨rfl, rfl⟩)
  go_ret
  exact ⟨rfl, rfl⟩
theorem specLen_any (n : Int) (w : World) : Calls Tryz.prog 67 #[.int .i64 n] w fun e w' => e = .returned (.bool (inB (-1000000) 1000000 n)) ∧ w' = w := by
  go_enter Tryz.func67, Tryz.ntmps67
  go_wp2_with (go_at_call 44; refine (l1In_any _ _ _ _).mono ?_; rintro e w' ⟨rfl, rfl⟩)
  go_ret
  exact ⟨rfl, rfl⟩
theorem l4Size_any (a p : Bool) (n : Int) (w : World) : Calls Tryz.prog 69 #[.agg #[.bool a, .bool p, .int .i64 n]] w fun e w' => e = .returned (.bool (szB a p n)) ∧ Below w.heap.size w w' := by
  cases a
  · cases p
    · go_enter Tryz.func69, Tryz.ntmps69
      go_wp2_with (go_at_call 67; refine (specLen_any _ _).mono ?_; rintro e w' ⟨rfl, rfl⟩)
      go_ret
      exact ⟨rfl, (Below.refl _ _).alloc (Nat.le_refl _) _⟩
    · go_enter Tryz.func69, Tryz.ntmps69
      go_wp2_with (go_at_call 44; refine (l1In_any _ _ _ _).mono ?_; rintro e w' ⟨rfl, rfl⟩)
      go_ret
      exact ⟨rfl, (Below.refl _ _).alloc (Nat.le_refl _) _⟩
  · cases p
    · by_cases hn : n = 0
      · subst hn
        go_enter Tryz.func69, Tryz.ntmps69
        go_wp2
        go_ret
        exact ⟨rfl, (Below.refl _ _).alloc (Nat.le_refl _) _⟩
      · go_enter Tryz.func69, Tryz.ntmps69
        go_wp2
        go_ret
        exact ⟨ret_bool (by simp [szB, hn]), (Below.refl _ _).alloc (Nat.le_refl _) _⟩
    · go_enter Tryz.func69, Tryz.ntmps69
      go_wp2
      go_ret
      exact ⟨rfl, (Below.refl _ _).alloc (Nat.le_refl _) _⟩
end Go.Proofs.YtddnphgpdnedbaaGreatDoor

namespace Go.Proofs.YtddnphgpdnedbaaGreatDoor
open Go.ChangeShapes Go.WideShapes Go.ChangeAt Go.RowKit
set_option linter.unusedVariables false

theorem inB_is {lo hi n : Int} (h : lo ≤ n ∧ n ≤ hi) : true = inB lo hi n := (decide_eq_true h).symm
theorem inB_not {lo hi n : Int} (h : ¬ (lo ≤ n ∧ n ≤ hi)) : false = inB lo hi n := (decide_eq_false h).symm
def szT (lo hi : Int) (np a p : Bool) (n : Int) : Bool := if a then (decide (n = 0) && !p) else if p then (!np && decide (max lo (-100000) ≤ n) && decide (n ≤ 100000)) else inB lo hi n

set_option maxHeartbeats 2000000 in
theorem goodN_any (nm : ByteArray) (b o : Nat) (lo hi n : Int) (np : Bool) (w : World) (hc : w.cell? ⟨b, o, none⟩ = some (.int .i64 n)) :
    Calls Tryz.prog 110 #[.agg #[.string nm, .pointer (some ⟨b, o, none⟩), .pointer none, .int .i64 lo, .int .i64 hi, .bool np]] w fun e w' => e = .returned (.bool (inB lo hi n)) ∧ Below w.heap.size w w' := by
  have hb : b < w.heap.size := World.block_lt_of_cell? _ ⟨b, o, none⟩ hc
  by_cases h1 : lo ≤ n
  · by_cases h2 : n ≤ hi
    · go_enter Tryz.func110, Tryz.ntmps110
      go_wp2
      go_quiet (fail)
      all_goals
        go_wp2
        go_ret
        exact ⟨ret_bool (inB_is (by omega)), below_drewN ((Below.refl _ _).alloc (Nat.le_refl _) _) _⟩
    · have hd : decide (n ≤ hi) = false := by simpa using h2
      go_enter Tryz.func110, Tryz.ntmps110
      go_wp2
      go_quiet (fail)
      all_goals
        go_wp2
        go_ret
        exact ⟨ret_bool (inB_not (by omega)), below_drewN ((Below.refl _ _).alloc (Nat.le_refl _) _) _⟩
  · have hd : decide (lo ≤ n) = false := by simpa using h1
    go_enter Tryz.func110, Tryz.ntmps110
    go_wp2
    go_quiet (fail)
    all_goals
      go_wp2
      go_ret
      exact ⟨ret_bool (inB_not (by omega)), below_drewN ((Below.refl _ _).alloc (Nat.le_refl _) _) _⟩

set_option maxHeartbeats 2000000 in
theorem goodS_any (nm : ByteArray) (b o : Nat) (lo hi n : Int) (np a p : Bool) (w : World) (hc0 : w.cell? ⟨b, o, none⟩ = some (.bool a)) (hc1 : w.cell? ⟨b, o + 1, none⟩ = some (.bool p)) (hc2 : w.cell? ⟨b, o + 2, none⟩ = some (.int .i64 n)) :
    Calls Tryz.prog 110 #[.agg #[.string nm, .pointer none, .pointer (some ⟨b, o, none⟩), .int .i64 lo, .int .i64 hi, .bool np]] w fun e w' => e = .returned (.bool (szT lo hi np a p n)) ∧ Below w.heap.size w w' := by
  have hb : b < w.heap.size := World.block_lt_of_cell? _ ⟨b, o, none⟩ hc0
  cases a
  · cases p
    · by_cases h1 : lo ≤ n
      · by_cases h2 : n ≤ hi
        · go_enter Tryz.func110, Tryz.ntmps110
          go_wp2
          go_ret
          exact ⟨ret_bool (inB_is (by omega)), (Below.refl _ _).alloc (Nat.le_refl _) _⟩
        · go_enter Tryz.func110, Tryz.ntmps110
          go_wp2
          go_ret
          exact ⟨ret_bool (inB_not (by omega)), (Below.refl _ _).alloc (Nat.le_refl _) _⟩
      · have hd : decide (lo ≤ n) = false := by simpa using h1
        go_enter Tryz.func110, Tryz.ntmps110
        go_wp2
        go_ret
        exact ⟨ret_bool (inB_not (by omega)), (Below.refl _ _).alloc (Nat.le_refl _) _⟩
    · cases np
      · by_cases hlo : -100000 ≤ lo
        · have hm : max lo (-100000) = lo := by omega
          by_cases h1 : lo ≤ n
          · by_cases h2 : n ≤ 100000
            · go_enter Tryz.func110, Tryz.ntmps110
              go_wp2
              go_ret
              exact ⟨ret_bool (by simp [szT]; omega), (Below.refl _ _).alloc (Nat.le_refl _) _⟩
            · go_enter Tryz.func110, Tryz.ntmps110
              go_wp2
              go_ret
              exact ⟨ret_bool (by simp [szT]; omega), (Below.refl _ _).alloc (Nat.le_refl _) _⟩
          · go_enter Tryz.func110, Tryz.ntmps110
            go_wp2
            go_ret
            exact ⟨ret_bool (by simp [szT]; omega), (Below.refl _ _).alloc (Nat.le_refl _) _⟩
        · have hm : max lo (-100000) = -100000 := by omega
          by_cases h1 : -100000 ≤ n
          · by_cases h2 : n ≤ 100000
            · go_enter Tryz.func110, Tryz.ntmps110
              go_wp2
              go_ret
              exact ⟨ret_bool (by simp [szT]; omega), (Below.refl _ _).alloc (Nat.le_refl _) _⟩
            · go_enter Tryz.func110, Tryz.ntmps110
              go_wp2
              go_ret
              exact ⟨ret_bool (by simp [szT]; omega), (Below.refl _ _).alloc (Nat.le_refl _) _⟩
          · go_enter Tryz.func110, Tryz.ntmps110
            go_wp2
            go_ret
            exact ⟨ret_bool (by simp [szT]; omega), (Below.refl _ _).alloc (Nat.le_refl _) _⟩
      · go_enter Tryz.func110, Tryz.ntmps110
        go_wp2
        go_ret
        exact ⟨rfl, (Below.refl _ _).alloc (Nat.le_refl _) _⟩
  · by_cases hn : n = 0
    · subst hn
      cases p
      · go_enter Tryz.func110, Tryz.ntmps110
        go_wp2
        go_ret
        exact ⟨rfl, (Below.refl _ _).alloc (Nat.le_refl _) _⟩
      · go_enter Tryz.func110, Tryz.ntmps110
        go_wp2
        go_ret
        exact ⟨rfl, (Below.refl _ _).alloc (Nat.le_refl _) _⟩
    · go_enter Tryz.func110, Tryz.ntmps110
      go_wp2
      go_ret
      exact ⟨ret_bool (by simp [szT, hn]), (Below.refl _ _).alloc (Nat.le_refl _) _⟩
end Go.Proofs.YtddnphgpdnedbaaGreatDoor

namespace Go.Proofs.YtddnphgpdnedbaaGreatDoor
open Go.ChangeShapes Go.WideShapes Go.ChangeAt Go.RowKit
set_option linter.unusedVariables false

def gA (s : St) : Bool := inB 1 3 s.sh && inB 0 2 s.fl && inB 0 3 s.cl && inB 1 5 s.wh && inB 1 3 s.al
def gB (s : St) : Bool := szB s.w.a s.w.p s.w.n && szB s.h.a s.h.p s.h.n && szB s.ml.a s.ml.p s.ml.n && szB s.mr.a s.mr.p s.mr.n
def gC (s : St) : Bool := !decide (s.w.n < 0) && !decide (s.h.n < 0) && !s.h.p && inB 0 1000000 s.mn && inB (-1) 1000000 s.mx
def gD (s : St) : Bool := inB (-1000000) 1000000 s.mt && inB (-1000000) 1000000 s.mb && inB (-1000000) 1000000 s.ri && inB (-1000000) 1000000 s.dn
def gE (s : St) : Bool := inB 0 64000 s.bo && inB 0 64000 s.pa && inB 0 64000 s.lh
def styleB (s : St) : Bool := gA s && gB s && gC s && gD s && gE s
/-- The first k sizes are good. -/
def okS (s : St) (k : Nat) : Prop := (0 < k → szB s.w.a s.w.p s.w.n = true) ∧ (1 < k → szB s.h.a s.h.p s.h.n = true) ∧ (2 < k → szB s.ml.a s.ml.p s.ml.n = true) ∧ (3 < k → szB s.mr.a s.mr.p s.mr.n = true)

set_option maxHeartbeats 4000000 in
theorem specGood_A (s : St) (w : World) (h : gA s = false) :
    Calls Tryz.prog 40 #[.agg #[.int .i64 s.sh, .int .i64 s.fl, .int .i64 s.cl, .bool s.w.a, .bool s.w.p, .int .i64 s.w.n, .bool s.h.a, .bool s.h.p, .int .i64 s.h.n, .int .i64 s.mn, .int .i64 s.mx, .int .i64 s.mt, .bool s.mr.a, .bool s.mr.p, .int .i64 s.mr.n, .int .i64 s.mb, .bool s.ml.a, .bool s.ml.p, .int .i64 s.ml.n, .int .i64 s.bo, .int .i64 s.pa, .int .i64 s.wh, .int .i64 s.al, .int .i64 s.lh, .int .i64 s.ri, .int .i64 s.dn]] w fun e w' => e = .returned (.bool false) ∧ Below w.heap.size w w' := by
  unfold gA at h
  cases h1 : inB 1 3 s.sh
  · go_enter Tryz.func40, Tryz.ntmps40
    go_wp2_with (first | (go_at_call 44; refine (l1In_any _ _ _ _).mono ?_; rintro e w' ⟨rfl, rfl⟩) | (go_at_call 68; refine (l3White_any _ _).mono ?_; rintro e w' ⟨rfl, rfl⟩))
    go_ret
    exact ⟨rfl, (Below.refl _ _).alloc (Nat.le_refl _) _⟩
  cases h2 : inB 0 2 s.fl
  · go_enter Tryz.func40, Tryz.ntmps40
    go_wp2_with (first | (go_at_call 44; refine (l1In_any _ _ _ _).mono ?_; rintro e w' ⟨rfl, rfl⟩) | (go_at_call 68; refine (l3White_any _ _).mono ?_; rintro e w' ⟨rfl, rfl⟩))
    go_ret
    exact ⟨rfl, (Below.refl _ _).alloc (Nat.le_refl _) _⟩
  cases h3 : inB 0 3 s.cl
  · go_enter Tryz.func40, Tryz.ntmps40
    go_wp2_with (first | (go_at_call 44; refine (l1In_any _ _ _ _).mono ?_; rintro e w' ⟨rfl, rfl⟩) | (go_at_call 68; refine (l3White_any _ _).mono ?_; rintro e w' ⟨rfl, rfl⟩))
    go_ret
    exact ⟨rfl, (Below.refl _ _).alloc (Nat.le_refl _) _⟩
  cases h4 : inB 1 5 s.wh
  · go_enter Tryz.func40, Tryz.ntmps40
    go_wp2_with (first | (go_at_call 44; refine (l1In_any _ _ _ _).mono ?_; rintro e w' ⟨rfl, rfl⟩) | (go_at_call 68; refine (l3White_any _ _).mono ?_; rintro e w' ⟨rfl, rfl⟩))
    go_ret
    exact ⟨rfl, (Below.refl _ _).alloc (Nat.le_refl _) _⟩
  cases h5 : inB 1 3 s.al
  · go_enter Tryz.func40, Tryz.ntmps40
    go_wp2_with (first | (go_at_call 44; refine (l1In_any _ _ _ _).mono ?_; rintro e w' ⟨rfl, rfl⟩) | (go_at_call 68; refine (l3White_any _ _).mono ?_; rintro e w' ⟨rfl, rfl⟩))
    go_ret
    exact ⟨rfl, (Below.refl _ _).alloc (Nat.le_refl _) _⟩
  · simp [h1, h2, h3, h4, h5] at h
end Go.Proofs.YtddnphgpdnedbaaGreatDoor

namespace Go.Proofs.YtddnphgpdnedbaaGreatDoor
open Go.ChangeShapes Go.WideShapes Go.ChangeAt Go.RowKit
set_option linter.unusedVariables false

/-- The first k of the four lengths are good; of the three edges. -/
def okD (s : St) (k : Nat) : Prop := (0 < k → inB (-1000000) 1000000 s.mt = true) ∧ (1 < k → inB (-1000000) 1000000 s.mb = true) ∧ (2 < k → inB (-1000000) 1000000 s.ri = true) ∧ (3 < k → inB (-1000000) 1000000 s.dn = true)
def okE (s : St) (k : Nat) : Prop := (0 < k → inB 0 64000 s.bo = true) ∧ (1 < k → inB 0 64000 s.pa = true) ∧ (2 < k → inB 0 64000 s.lh = true)
def restB (s : St) : Bool := gB s && gC s && gD s && gE s

set_option maxHeartbeats 8000000 in
theorem specGood_rest (s : St) (w : World) (h1 : inB 1 3 s.sh = true) (h2 : inB 0 2 s.fl = true) (h3 : inB 0 3 s.cl = true) (h4 : inB 1 5 s.wh = true) (h5 : inB 1 3 s.al = true) :
    Calls Tryz.prog 40 #[.agg #[.int .i64 s.sh, .int .i64 s.fl, .int .i64 s.cl, .bool s.w.a, .bool s.w.p, .int .i64 s.w.n, .bool s.h.a, .bool s.h.p, .int .i64 s.h.n, .int .i64 s.mn, .int .i64 s.mx, .int .i64 s.mt, .bool s.mr.a, .bool s.mr.p, .int .i64 s.mr.n, .int .i64 s.mb, .bool s.ml.a, .bool s.ml.p, .int .i64 s.ml.n, .int .i64 s.bo, .int .i64 s.pa, .int .i64 s.wh, .int .i64 s.al, .int .i64 s.lh, .int .i64 s.ri, .int .i64 s.dn]] w fun e w' => e = .returned (.bool (restB s)) ∧ Below w.heap.size w w' := by
  go_enter Tryz.func40, Tryz.ntmps40
  go_wp2_with (first | (go_at_call 44; refine (l1In_any _ _ _ _).mono ?_; rintro e w' ⟨rfl, rfl⟩) | (go_at_call 68; refine (l3White_any _ _).mono ?_; rintro e w' ⟨rfl, rfl⟩))
  clear h1 h2 h3 h4 h5
  go_loopw [47] (fun i wr => ∃ k : Nat, k ≤ 4 ∧ i = .int .i64 k ∧ okS s k ∧ wr.heap[w.heap.size]? = some (.cells (#[.int .i64 s.sh, .int .i64 s.fl, .int .i64 s.cl, .bool s.w.a, .bool s.w.p, .int .i64 s.w.n, .bool s.h.a, .bool s.h.p, .int .i64 s.h.n, .int .i64 s.mn, .int .i64 s.mx, .int .i64 s.mt, .bool s.mr.a, .bool s.mr.p, .int .i64 s.mr.n, .int .i64 s.mb, .bool s.ml.a, .bool s.ml.p, .int .i64 s.ml.n, .int .i64 s.bo, .int .i64 s.pa, .int .i64 s.wh, .int .i64 s.al, .int .i64 s.lh, .int .i64 s.ri, .int .i64 s.dn]) 34 (0, 0)) ∧ wr.heap[w.heap.size + 1]? = some (.cells (#[.bool s.w.a, .bool s.w.p, .int .i64 s.w.n, .bool s.h.a, .bool s.h.p, .int .i64 s.h.n, .bool s.ml.a, .bool s.ml.p, .int .i64 s.ml.n, .bool s.mr.a, .bool s.mr.p, .int .i64 s.mr.n]) 32 (0, 0)) ∧ Below w.heap.size w wr) (fun i _ => 4 - (intOf i).toNat)
  case atStart => exact ⟨0, by omega, rfl, by unfold okS; omega, heap_in (heap_at _ _ _ rfl), heap_at _ _ _ (by simp), ((Below.refl _ _).alloc (Nat.le_refl _) _).alloc (by simp) _⟩
  case round =>
    obtain ⟨k, hk, rfl, hp, l0, l1, bel⟩ := hrel
    have HP : Hid (okS s k) := hp
    clear hp
    have hx : k = 0 ∨ k = 1 ∨ k = 2 ∨ k = 3 ∨ k = 4 := by omega
    clear hk
    have hc0 := lies_cell l0
    have hc1 := lies_cell l1
    have lt1 := lies_lt l1
    have lt0 := lies_lt l0
    have L0 : Hid (wr.heap[w.heap.size]? = some (.cells (#[.int .i64 s.sh, .int .i64 s.fl, .int .i64 s.cl, .bool s.w.a, .bool s.w.p, .int .i64 s.w.n, .bool s.h.a, .bool s.h.p, .int .i64 s.h.n, .int .i64 s.mn, .int .i64 s.mx, .int .i64 s.mt, .bool s.mr.a, .bool s.mr.p, .int .i64 s.mr.n, .int .i64 s.mb, .bool s.ml.a, .bool s.ml.p, .int .i64 s.ml.n, .int .i64 s.bo, .int .i64 s.pa, .int .i64 s.wh, .int .i64 s.al, .int .i64 s.lh, .int .i64 s.ri, .int .i64 s.dn]) 34 (0, 0))) := l0
    have L1 : Hid (wr.heap[w.heap.size + 1]? = some (.cells (#[.bool s.w.a, .bool s.w.p, .int .i64 s.w.n, .bool s.h.a, .bool s.h.p, .int .i64 s.h.n, .bool s.ml.a, .bool s.ml.p, .int .i64 s.ml.n, .bool s.mr.a, .bool s.mr.p, .int .i64 s.mr.n]) 32 (0, 0))) := l1
    clear l0 l1
    rcases hx with rfl | rfl | rfl | rfl | rfl
    · clear hc0
      cases hB : szB s.w.a s.w.p s.w.n
      · go_wp2_with (go_at_call 69; refine (l4Size_any _ _ _ _).mono ?_; rintro e w1 ⟨rfl, hb⟩)
        go_ret
        exact ⟨ret_bool (by simp [restB, gB, hB]), (bel.alloc (by omega) _).trans (hb.mono (by simp; omega))⟩
      · go_wp2_with (go_at_call 69; refine (l4Size_any _ _ _ _).mono ?_; rintro e w1 ⟨rfl, hb⟩)
        go_roundw
        case rel => exact ⟨1, by omega, rfl, by have h := HP.out; unfold okS at h ⊢; exact ⟨fun _ => hB, fun hh => absurd hh (by omega), fun hh => absurd hh (by omega), fun hh => absurd hh (by omega)⟩, below_lies hb (heap_in L0.out) (by simp; omega), below_lies hb (heap_in L1.out) (by simp; omega), (bel.alloc (by omega) _).trans (hb.mono (by simp; omega))⟩
        case measure => simp [intOf]
    · clear hc0
      cases hB : szB s.h.a s.h.p s.h.n
      · go_wp2_with (go_at_call 69; refine (l4Size_any _ _ _ _).mono ?_; rintro e w1 ⟨rfl, hb⟩)
        go_ret
        exact ⟨ret_bool (by simp [restB, gB, hB]), (bel.alloc (by omega) _).trans (hb.mono (by simp; omega))⟩
      · go_wp2_with (go_at_call 69; refine (l4Size_any _ _ _ _).mono ?_; rintro e w1 ⟨rfl, hb⟩)
        go_roundw
        case rel => exact ⟨2, by omega, rfl, by have h := HP.out; unfold okS at h ⊢; exact ⟨fun _ => h.1 (by omega), fun _ => hB, fun hh => absurd hh (by omega), fun hh => absurd hh (by omega)⟩, below_lies hb (heap_in L0.out) (by simp; omega), below_lies hb (heap_in L1.out) (by simp; omega), (bel.alloc (by omega) _).trans (hb.mono (by simp; omega))⟩
        case measure => simp [intOf]
    · clear hc0
      cases hB : szB s.ml.a s.ml.p s.ml.n
      · go_wp2_with (go_at_call 69; refine (l4Size_any _ _ _ _).mono ?_; rintro e w1 ⟨rfl, hb⟩)
        go_ret
        exact ⟨ret_bool (by simp [restB, gB, hB]), (bel.alloc (by omega) _).trans (hb.mono (by simp; omega))⟩
      · go_wp2_with (go_at_call 69; refine (l4Size_any _ _ _ _).mono ?_; rintro e w1 ⟨rfl, hb⟩)
        go_roundw
        case rel => exact ⟨3, by omega, rfl, by have h := HP.out; unfold okS at h ⊢; exact ⟨fun _ => h.1 (by omega), fun _ => h.2.1 (by omega), fun _ => hB, fun hh => absurd hh (by omega)⟩, below_lies hb (heap_in L0.out) (by simp; omega), below_lies hb (heap_in L1.out) (by simp; omega), (bel.alloc (by omega) _).trans (hb.mono (by simp; omega))⟩
        case measure => simp [intOf]
    · clear hc0
      cases hB : szB s.mr.a s.mr.p s.mr.n
      · go_wp2_with (go_at_call 69; refine (l4Size_any _ _ _ _).mono ?_; rintro e w1 ⟨rfl, hb⟩)
        go_ret
        exact ⟨ret_bool (by simp [restB, gB, hB]), (bel.alloc (by omega) _).trans (hb.mono (by simp; omega))⟩
      · go_wp2_with (go_at_call 69; refine (l4Size_any _ _ _ _).mono ?_; rintro e w1 ⟨rfl, hb⟩)
        go_roundw
        case rel => exact ⟨4, by omega, rfl, by have h := HP.out; unfold okS at h ⊢; exact ⟨fun _ => h.1 (by omega), fun _ => h.2.1 (by omega), fun _ => h.2.2.1 (by omega), fun _ => hB⟩, below_lies hb (heap_in L0.out) (by simp; omega), below_lies hb (heap_in L1.out) (by simp; omega), (bel.alloc (by omega) _).trans (hb.mono (by simp; omega))⟩
        case measure => simp [intOf]
    · have hG : gB s = true := by have h := HP.out; unfold okS at h; simp [gB, h.1, h.2.1, h.2.2.1, h.2.2.2]
      have HG : Hid (gB s = true) := hG
      clear hG HP hc1 L1
      by_cases c1 : s.w.n < 0
      · go_wp2_with (first | (go_at_call 44; refine (l1In_any _ _ _ _).mono ?_; rintro e w' ⟨rfl, rfl⟩) | (go_at_call 68; refine (l3White_any _ _).mono ?_; rintro e w' ⟨rfl, rfl⟩))
        go_ret
        exact ⟨ret_bool (by simp [restB, gC]; omega), bel⟩
      have d1 : decide (s.w.n < 0) = false := by simpa using c1
      by_cases c2 : s.h.n < 0
      · go_wp2_with (first | (go_at_call 44; refine (l1In_any _ _ _ _).mono ?_; rintro e w' ⟨rfl, rfl⟩) | (go_at_call 68; refine (l3White_any _ _).mono ?_; rintro e w' ⟨rfl, rfl⟩))
        go_ret
        exact ⟨ret_bool (by simp [restB, gC]; omega), bel⟩
      have d2 : decide (s.h.n < 0) = false := by simpa using c2
      cases c3 : s.h.p
      rotate_left
      · go_wp2_with (first | (go_at_call 44; refine (l1In_any _ _ _ _).mono ?_; rintro e w' ⟨rfl, rfl⟩) | (go_at_call 68; refine (l3White_any _ _).mono ?_; rintro e w' ⟨rfl, rfl⟩))
        go_ret
        exact ⟨ret_bool (by simp [restB, gC, c3]), bel⟩
      cases c4 : inB 0 1000000 s.mn
      · go_wp2_with (first | (go_at_call 44; refine (l1In_any _ _ _ _).mono ?_; rintro e w' ⟨rfl, rfl⟩) | (go_at_call 68; refine (l3White_any _ _).mono ?_; rintro e w' ⟨rfl, rfl⟩))
        go_ret
        exact ⟨ret_bool (by simp [restB, gC, c4]), bel⟩
      cases c5 : inB (-1) 1000000 s.mx
      · go_wp2_with (first | (go_at_call 44; refine (l1In_any _ _ _ _).mono ?_; rintro e w' ⟨rfl, rfl⟩) | (go_at_call 68; refine (l3White_any _ _).mono ?_; rintro e w' ⟨rfl, rfl⟩))
        go_ret
        exact ⟨ret_bool (by simp [restB, gC, c5]), bel⟩
      go_wp2_with (first | (go_at_call 44; refine (l1In_any _ _ _ _).mono ?_; rintro e w' ⟨rfl, rfl⟩) | (go_at_call 68; refine (l3White_any _ _).mono ?_; rintro e w' ⟨rfl, rfl⟩))
      have HC : Hid (gC s = true) := by show gC s = true; simp [gC, d1, d2, c3, c4, c5]
      clear c1 c2 c3 c4 c5 d1 d2
      go_loop [92] (fun i => ∃ k : Nat, k ≤ 4 ∧ i = .int .i64 k ∧ okD s k) (fun i => 4 - (intOf i).toNat)
      case atStart => exact ⟨0, by omega, rfl, by unfold okD; omega⟩
      case round =>
        obtain ⟨k, hk, rfl, hp⟩ := hrel
        have HP : Hid (okD s k) := hp
        clear hp
        have hx : k = 0 ∨ k = 1 ∨ k = 2 ∨ k = 3 ∨ k = 4 := by omega
        clear hk
        rcases hx with rfl | rfl | rfl | rfl | rfl
        · cases hB : inB (-1000000) 1000000 s.mt
          · go_wp2_with (go_at_call 67; refine (specLen_any _ _).mono ?_; rintro e w' ⟨rfl, rfl⟩)
            go_ret
            exact ⟨ret_bool (by simp [restB, gD, hB]), bel.alloc (by omega) _⟩
          · go_wp2_with (go_at_call 67; refine (specLen_any _ _).mono ?_; rintro e w' ⟨rfl, rfl⟩)
            go_round
            case rel => exact ⟨1, by omega, rfl, by have h := HP.out; unfold okD at h ⊢; exact ⟨fun _ => hB, fun hh => absurd hh (by omega), fun hh => absurd hh (by omega), fun hh => absurd hh (by omega)⟩⟩
            case measure => simp [intOf]
        · cases hB : inB (-1000000) 1000000 s.mb
          · go_wp2_with (go_at_call 67; refine (specLen_any _ _).mono ?_; rintro e w' ⟨rfl, rfl⟩)
            go_ret
            exact ⟨ret_bool (by simp [restB, gD, hB]), bel.alloc (by omega) _⟩
          · go_wp2_with (go_at_call 67; refine (specLen_any _ _).mono ?_; rintro e w' ⟨rfl, rfl⟩)
            go_round
            case rel => exact ⟨2, by omega, rfl, by have h := HP.out; unfold okD at h ⊢; exact ⟨fun _ => h.1 (by omega), fun _ => hB, fun hh => absurd hh (by omega), fun hh => absurd hh (by omega)⟩⟩
            case measure => simp [intOf]
        · cases hB : inB (-1000000) 1000000 s.ri
          · go_wp2_with (go_at_call 67; refine (specLen_any _ _).mono ?_; rintro e w' ⟨rfl, rfl⟩)
            go_ret
            exact ⟨ret_bool (by simp [restB, gD, hB]), bel.alloc (by omega) _⟩
          · go_wp2_with (go_at_call 67; refine (specLen_any _ _).mono ?_; rintro e w' ⟨rfl, rfl⟩)
            go_round
            case rel => exact ⟨3, by omega, rfl, by have h := HP.out; unfold okD at h ⊢; exact ⟨fun _ => h.1 (by omega), fun _ => h.2.1 (by omega), fun _ => hB, fun hh => absurd hh (by omega)⟩⟩
            case measure => simp [intOf]
        · cases hB : inB (-1000000) 1000000 s.dn
          · go_wp2_with (go_at_call 67; refine (specLen_any _ _).mono ?_; rintro e w' ⟨rfl, rfl⟩)
            go_ret
            exact ⟨ret_bool (by simp [restB, gD, hB]), bel.alloc (by omega) _⟩
          · go_wp2_with (go_at_call 67; refine (specLen_any _ _).mono ?_; rintro e w' ⟨rfl, rfl⟩)
            go_round
            case rel => exact ⟨4, by omega, rfl, by have h := HP.out; unfold okD at h ⊢; exact ⟨fun _ => h.1 (by omega), fun _ => h.2.1 (by omega), fun _ => h.2.2.1 (by omega), fun _ => hB⟩⟩
            case measure => simp [intOf]
        · have HD : Hid (gD s = true) := by
            show gD s = true
            have h := HP.out
            unfold okD at h
            simp [gD, h.1, h.2.1, h.2.2.1, h.2.2.2]
          clear HP
          go_wp2_with fail
          go_loop [108] (fun i => ∃ k : Nat, k ≤ 3 ∧ i = .int .i64 k ∧ okE s k) (fun i => 3 - (intOf i).toNat)
          case atStart => exact ⟨0, by omega, rfl, by unfold okE; omega⟩
          case round =>
            obtain ⟨k, hk, rfl, hp⟩ := hrel
            have HP : Hid (okE s k) := hp
            clear hp
            have hx : k = 0 ∨ k = 1 ∨ k = 2 ∨ k = 3 := by omega
            clear hk
            rcases hx with rfl | rfl | rfl | rfl
            · cases hB : inB 0 64000 s.bo
              · go_wp2_with (first | (go_at_call 44; refine (l1In_any _ _ _ _).mono ?_; rintro e w' ⟨rfl, rfl⟩) | (go_at_call 68; refine (l3White_any _ _).mono ?_; rintro e w' ⟨rfl, rfl⟩))
                go_ret
                exact ⟨ret_bool (by simp [restB, gE, hB]), (bel.alloc (by omega) _).alloc (by simp; omega) _⟩
              · go_wp2_with (first | (go_at_call 44; refine (l1In_any _ _ _ _).mono ?_; rintro e w' ⟨rfl, rfl⟩) | (go_at_call 68; refine (l3White_any _ _).mono ?_; rintro e w' ⟨rfl, rfl⟩))
                go_round
                case rel => exact ⟨1, by omega, rfl, by have h := HP.out; unfold okE at h ⊢; exact ⟨fun _ => hB, fun hh => absurd hh (by omega), fun hh => absurd hh (by omega)⟩⟩
                case measure => simp [intOf]
            · cases hB : inB 0 64000 s.pa
              · go_wp2_with (first | (go_at_call 44; refine (l1In_any _ _ _ _).mono ?_; rintro e w' ⟨rfl, rfl⟩) | (go_at_call 68; refine (l3White_any _ _).mono ?_; rintro e w' ⟨rfl, rfl⟩))
                go_ret
                exact ⟨ret_bool (by simp [restB, gE, hB]), (bel.alloc (by omega) _).alloc (by simp; omega) _⟩
              · go_wp2_with (first | (go_at_call 44; refine (l1In_any _ _ _ _).mono ?_; rintro e w' ⟨rfl, rfl⟩) | (go_at_call 68; refine (l3White_any _ _).mono ?_; rintro e w' ⟨rfl, rfl⟩))
                go_round
                case rel => exact ⟨2, by omega, rfl, by have h := HP.out; unfold okE at h ⊢; exact ⟨fun _ => h.1 (by omega), fun _ => hB, fun hh => absurd hh (by omega)⟩⟩
                case measure => simp [intOf]
            · cases hB : inB 0 64000 s.lh
              · go_wp2_with (first | (go_at_call 44; refine (l1In_any _ _ _ _).mono ?_; rintro e w' ⟨rfl, rfl⟩) | (go_at_call 68; refine (l3White_any _ _).mono ?_; rintro e w' ⟨rfl, rfl⟩))
                go_ret
                exact ⟨ret_bool (by simp [restB, gE, hB]), (bel.alloc (by omega) _).alloc (by simp; omega) _⟩
              · go_wp2_with (first | (go_at_call 44; refine (l1In_any _ _ _ _).mono ?_; rintro e w' ⟨rfl, rfl⟩) | (go_at_call 68; refine (l3White_any _ _).mono ?_; rintro e w' ⟨rfl, rfl⟩))
                go_round
                case rel => exact ⟨3, by omega, rfl, by have h := HP.out; unfold okE at h ⊢; exact ⟨fun _ => h.1 (by omega), fun _ => h.2.1 (by omega), fun _ => hB⟩⟩
                case measure => simp [intOf]
            · go_wp2
              go_ret
              refine ⟨ret_bool ?_, (bel.alloc (by omega) _).alloc (by simp; omega) _⟩
              have h := HP.out
              unfold okE at h
              simp [restB, HG.out, HC.out, HD.out, gE, h.1, h.2.1, h.2.2]

theorem specGoodStyle_any (s : St) (w : World) :
    Calls Tryz.prog 40 #[.agg #[.int .i64 s.sh, .int .i64 s.fl, .int .i64 s.cl, .bool s.w.a, .bool s.w.p, .int .i64 s.w.n, .bool s.h.a, .bool s.h.p, .int .i64 s.h.n, .int .i64 s.mn, .int .i64 s.mx, .int .i64 s.mt, .bool s.mr.a, .bool s.mr.p, .int .i64 s.mr.n, .int .i64 s.mb, .bool s.ml.a, .bool s.ml.p, .int .i64 s.ml.n, .int .i64 s.bo, .int .i64 s.pa, .int .i64 s.wh, .int .i64 s.al, .int .i64 s.lh, .int .i64 s.ri, .int .i64 s.dn]] w fun e w' => e = .returned (.bool (styleB s)) ∧ Below w.heap.size w w' := by
  cases h : gA s
  · have e : styleB s = false := by simp [styleB, h]
    rw [e]
    exact specGood_A s w h
  · have e : styleB s = restB s := by simp [styleB, restB, h]
    rw [e]
    simp only [gA, Bool.and_eq_true] at h
    exact specGood_rest s w h.1.1.1.1 h.1.1.1.2 h.1.1.2 h.1.2 h.2
end Go.Proofs.YtddnphgpdnedbaaGreatDoor
