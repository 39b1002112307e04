/-
  Contracts of the laws' own copies of int slices: toIntS hands back a new row of the same numbers and leaves all older memory alone, for slices of at most 1048576 elements.
-/
import Derived.Test.YtjknloimdbcogaaRowInts
namespace Go.Proofs.Ytjknloimdbcogaa
open Go.ChangeShapes Go.WideShapes Go.ChangeAt Go.RowKit

set_option maxHeartbeats 1000000 in
theorem eqInts_some (b off b' off' n cap cap' : Nat) (zs : List Int) (w : World) (hl : n ≤ 1048576)
    (hc : ∀ i, i < n → w.cell? ⟨b, off + i, none⟩ = some (.int .i64 (zs.getD i 0)))
    (hd : ∀ i, i < n → w.cell? ⟨b', off' + i, none⟩ = some (.int .i64 (zs.getD i 0))) :
    Calls Try.prog 8 #[.slice (some ⟨b, off, none⟩) n cap, .slice (some ⟨b', off', none⟩) n cap'] w fun e w' =>
      e = .returned (.bool true) ∧ Below w.heap.size w w' := by
  go_enter Try.func8, Try.ntmps8
  go_wp2
  go_loopw [5] (fun i wr => ∃ k : Nat, k ≤ n ∧ i = .int .i64 k ∧ Below w.heap.size w wr) (fun i _ => n - (intOf i).toNat)
  case atStart => exact ⟨0, Nat.zero_le _, rfl, Below.refl _ _⟩
  case round =>
    obtain ⟨k, hk, rfl, hbw⟩ := hrel
    by_cases hlt : k < n
    · obtain ⟨z, hz⟩ : ∃ z, z = zs.getD k 0 := ⟨_, rfl⟩
      have hcx : wr.cell? ⟨b, off + k, none⟩ = some (.int .i64 z) := by rw [hz]; exact (hbw.cell (block_lt (hc k hlt))).trans (hc k hlt)
      have hdx : wr.cell? ⟨b', off' + k, none⟩ = some (.int .i64 z) := by rw [hz]; exact (hbw.cell (block_lt (hd k hlt))).trans (hd k hlt)
      clear hz hc hd
      have hlt' : (k : Int) < (n : Int) := by omega
      go_wp2
      go_quiet (fail)
      go_wp2
      go_roundw
      case rel => exact ⟨k + 1, by omega, by go_num, below_drewN hbw _⟩
      case measure => simp [intOf]; omega
    · go_wp2
      go_ret
      exact ⟨rfl, hbw⟩

set_option maxHeartbeats 1000000 in
theorem eqInts_none (a a' : Option Addr) (cap cap' : Nat) (w : World) :
    Calls Try.prog 8 #[.slice a 0 cap, .slice a' 0 cap'] w fun e w' => e = .returned (.bool true) ∧ Below w.heap.size w w' := by
  go_enter Try.func8, Try.ntmps8
  go_wp2
  refine wp_loop_rounds 1 ?_
  rw [rounds_succ]
  go_wp2
  go_ret
  exact ⟨rfl, Below.refl _ _⟩

/-- eqIntS says yes of two rows of the same numbers. -/
theorem eqInts (a a' : Option Addr) (cap cap' : Nat) (zs : List Int) (w : World) (hr : Row w a zs) (hr' : Row w a' zs) (hl : zs.length ≤ 1048576) :
    Calls Try.prog 8 #[.slice a zs.length cap, .slice a' zs.length cap'] w fun e w' => e = .returned (.bool true) ∧ Below w.heap.size w w' := by
  rcases hr with rfl | ⟨b, off, rfl, hc⟩
  · exact eqInts_none a a' cap cap' w
  · rcases hr' with rfl | ⟨b', off', rfl, hd⟩
    · exact eqInts_none _ _ cap cap' w
    · exact eqInts_some b off b' off' zs.length cap cap' zs w hl hc hd
end Go.Proofs.Ytjknloimdbcogaa
