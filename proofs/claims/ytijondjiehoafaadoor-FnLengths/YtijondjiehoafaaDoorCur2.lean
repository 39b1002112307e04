/-
  Contracts of the cursor's choices: pick, one and among, over its step.
-/
import Derived.Test.YtijondjiehoafaaDoorCur
namespace Go.Proofs.YtijondjiehoafaaDoor
open Go.ChangeShapes Go.WideShapes Go.ChangeAt Go.RowKit
set_option linter.unusedVariables false

theorem CurOk.more {w : World} {b : Nat} {a : Option Addr} {len cap m m' : Nat} (h : CurOk w b a len cap m) (hm : m ≤ m') : CurOk w b a len cap m' := by
  obtain ⟨hl, ⟨k, seed, hk, r⟩, hB⟩ := h
  exact ⟨hl, ⟨k, seed, by omega, r⟩, hB⟩

set_option maxHeartbeats 1000000 in
theorem pick_small (b len cap m : Nat) (a : Option Addr) (n : Int) (w : World) (hm : m ≤ 100000000000000) (hC : CurOk w b a len cap m) (n1 : 1 < n) (n2 : n ≤ 200) :
    Calls Tryd.prog 58 #[.pointer (some ⟨b, 0, none⟩), .int .i64 n] w fun e w' => ∃ v : Int, e = .returned (.int .i64 v) ∧ 0 ≤ v ∧ v < n ∧ CurOk w' b a len cap (m + 2) ∧ w.grownBy w' (some b) := by
  have NX := next_any b len cap m a w (by omega) hC
  have hn0 : (n == 0) = false := by simp; omega
  clear hC
  go_enter Tryd.func58, Tryd.ntmps58
  go_wp2_with (go_at_call 81; refine NX.mono ?_; rintro e w1 ⟨v, rfl, v0, v1, hC1, hg1⟩)
  go_ret
  exact ⟨_, rfl, Int.emod_nonneg _ (by omega), Int.emod_lt_of_pos _ (by omega), hC1.more (by omega), hg1⟩

set_option maxHeartbeats 1000000 in
theorem pick_big (b len cap m : Nat) (a : Option Addr) (n : Int) (w : World) (hm : m ≤ 100000000000000) (hC : CurOk w b a len cap m) (n1 : 200 < n) (n2 : n ≤ 1000000) :
    Calls Tryd.prog 58 #[.pointer (some ⟨b, 0, none⟩), .int .i64 n] w fun e w' => ∃ v : Int, e = .returned (.int .i64 v) ∧ 0 ≤ v ∧ v < n ∧ CurOk w' b a len cap (m + 2) ∧ w.grownBy w' (some b) := by
  have NX := next_any b len cap m a w (by omega) hC
  have hn0 : (n == 0) = false := by simp; omega
  clear hC
  go_enter Tryd.func58, Tryd.ntmps58
  go_wp2_with (go_at_call 81; have _t := NX; refine NX.mono ?_; rintro e w1 ⟨v, rfl, v0, v1, hC1, hg1⟩; have NY := next_any b len cap (m + 1) a w1 (by omega) hC1; clear NX hC1)
  go_wp2_with (go_at_call 81; refine NY.mono ?_; rintro e w2 ⟨u, rfl, u0, u1, hC2, hg2⟩)
  go_ret
  exact ⟨_, rfl, Int.emod_nonneg _ (by omega), Int.emod_lt_of_pos _ (by omega), hC2, grown_trans hg1 hg2⟩

set_option maxHeartbeats 1000000 in
theorem pick_one (b len cap m : Nat) (a : Option Addr) (n : Int) (w : World) (hC : CurOk w b a len cap m) (n1 : n ≤ 1) :
    Calls Tryd.prog 58 #[.pointer (some ⟨b, 0, none⟩), .int .i64 n] w fun e w' => e = .returned (.int .i64 0) ∧ w' = w := by
  clear hC
  go_enter Tryd.func58, Tryd.ntmps58
  go_wp2
  go_ret
  exact ⟨rfl, rfl⟩

/-- A choice among n. -/
theorem pick_any (b len cap m : Nat) (a : Option Addr) (n : Int) (w : World) (hm : m ≤ 100000000000000) (hC : CurOk w b a len cap m) (n1 : 1 ≤ n) (n2 : n ≤ 1000000) :
    Calls Tryd.prog 58 #[.pointer (some ⟨b, 0, none⟩), .int .i64 n] w fun e w' => ∃ v : Int, e = .returned (.int .i64 v) ∧ 0 ≤ v ∧ v < n ∧ CurOk w' b a len cap (m + 2) ∧ w.grownBy w' (some b) := by
  by_cases h1 : n ≤ 1
  · refine (pick_one b len cap m a n w hC h1).mono ?_
    rintro e w' ⟨rfl, rfl⟩
    exact ⟨0, rfl, by omega, by omega, hC.more (by omega), World.grownBy.refl _ _⟩
  · by_cases h2 : n ≤ 200
    · exact pick_small b len cap m a n w hm hC (by omega) h2
    · exact pick_big b len cap m a n w hm hC (by omega) n2

/-- Yes, once in n times. -/
theorem one_any (b len cap m : Nat) (a : Option Addr) (n : Int) (w : World) (hm : m ≤ 100000000000000) (hC : CurOk w b a len cap m) (n1 : 1 ≤ n) (n2 : n ≤ 1000000) :
    Calls Tryd.prog 44 #[.pointer (some ⟨b, 0, none⟩), .int .i64 n] w fun e w' => ∃ v : Bool, e = .returned (.bool v) ∧ CurOk w' b a len cap (m + 2) ∧ w.grownBy w' (some b) := by
  have P := pick_any b len cap m a n w hm hC n1 n2
  clear hC
  go_enter Tryd.func44, Tryd.ntmps44
  go_wp2_with (go_at_call 58; refine P.mono ?_; rintro e w1 ⟨v, rfl, v0, v1, hC1, hg1⟩)
  go_ret
  exact ⟨_, rfl, hC1, hg1⟩

set_option maxHeartbeats 1000000 in
/-- One of some numbers, in a row that is not the cursor's. -/
theorem among_any (b len cap m lb n lc : Nat) (a : Option Addr) (w : World) (hm : m ≤ 100000000000000) (hC : CurOk w b a len cap m) (n1 : 1 ≤ n) (n2 : n ≤ 1000000) (hne : lb ≠ b)
    (hc : ∀ i, i < n → ∃ z : Int, w.cell? ⟨lb, i, none⟩ = some (.int .i64 z)) :
    Calls Tryd.prog 64 #[.pointer (some ⟨b, 0, none⟩), .slice (some ⟨lb, 0, none⟩) n lc] w fun e w' => ∃ v : Int, e = .returned (.int .i64 v) ∧ CurOk w' b a len cap (m + 2) ∧ w.grownBy w' (some b) := by
  have P := pick_any b len cap m a n w hm hC (by omega) (by omega)
  clear hC
  have P' := P.mono (R' := fun e w' => ∃ j : Nat, e = .returned (.int .i64 (j : Int)) ∧ j < n ∧ (∃ z : Int, w'.cell? ⟨lb, j, none⟩ = some (.int .i64 z)) ∧ CurOk w' b a len cap (m + 2) ∧ w.grownBy w' (some b)) (fun e w' h => by
    obtain ⟨v, rfl, v0, v1, hC1, hg1⟩ := h
    obtain ⟨z, hz⟩ := hc v.toNat (by omega)
    have hb : w'.heap[lb]? = w.heap[lb]? := hg1.block lb (cell_lt' hz) (by simpa using hne)
    exact ⟨v.toNat, by rw [show ((v.toNat : Nat) : Int) = v by omega], by omega, ⟨z, (World.cell?_of_block (a := ⟨lb, v.toNat, none⟩) hb).trans hz⟩, hC1, hg1⟩)
  clear P hc
  go_enter Tryd.func64, Tryd.ntmps64
  go_wp2_with (go_at_call 58; refine P'.mono ?_; rintro e w1 ⟨j, rfl, j1, ⟨z, hz⟩, hC1, hg1⟩)
  go_ret
  exact ⟨_, rfl, hC1, hg1⟩
end Go.Proofs.YtijondjiehoafaaDoor
