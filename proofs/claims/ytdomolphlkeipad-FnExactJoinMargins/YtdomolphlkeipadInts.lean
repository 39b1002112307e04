/-
  Contracts of the laws' own copies of int slices: toIntS hands back a new row of the same numbers and leaves all older memory alone, for slices of at most 1048576 elements.
-/
import Derived.Test.YtdomolphlkeipadRows
import Derived.WalkKit
import Derived.ProofKit
import Derived.OpenShut
import Derived.Deep.QuietTactic
import Derived.BigQuiet
import Derived.WalkSmall
namespace Go.Proofs.Ytdomolphlkeipad
open Go.ChangeShapes Go.WideShapes Go.ChangeAt Go.RowKit

/-- A slice value at address a reads as the numbers zs. -/
def Row (w : World) (a : Option Addr) (zs : List Int) : Prop :=
  zs = [] ∨ ∃ b off, a = some ⟨b, off, none⟩ ∧ ∀ i, i < zs.length → w.cell? ⟨b, off + i, none⟩ = some (.int .i64 (zs.getD i 0))

theorem block_lt {w : World} {b o : Nat} {v : Value} (h : w.cell? ⟨b, o, none⟩ = some v) : b < w.heap.size := by
  by_cases hb : b < w.heap.size
  · exact hb
  · have : w.heap[b]? = none := Array.getElem?_eq_none (by omega)
    simp [World.cell?, this] at h

theorem Row.below {w w' : World} {a : Option Addr} {zs : List Int} (h : Row w a zs) (hb : Below w.heap.size w w') : Row w' a zs := by
  rcases h with h | ⟨b, off, rfl, hc⟩
  · exact .inl h
  · exact .inr ⟨b, off, rfl, fun i hi => (hb.cell (block_lt (hc i hi))).trans (hc i hi)⟩

theorem own_lt {w : World} {base e size g n cap : Nat} {xs : List Value} (h : w.ownsRow base e size (.slice (some ⟨g, 0, none⟩) n cap) n xs) : g < w.heap.size := by
  rcases h.2 with ⟨h', _⟩ | ⟨g', cap', cur, h', _, hg, _⟩
  · simp at h'
  · simp only [Value.slice.injEq, Option.some.injEq, Addr.mk.injEq, and_true, true_and] at h'
    obtain ⟨rfl, rfl⟩ := h'
    by_cases hb : g < w.heap.size
    · exact hb
    · rw [Array.getElem?_eq_none (by omega)] at hg
      cases hg

/-- The first k cells of a row hold the first k numbers. -/
def Filled (xs : List Value) (zs : List Int) (k : Nat) : Prop := ∀ j, j < k → xs[j]? = some (.int .i64 (zs.getD j 0))
theorem filled_zero (xs : List Value) (zs : List Int) : Filled xs zs 0 := fun j h => absurd h (by omega)
theorem filled_set {xs : List Value} {zs : List Int} {k : Nat} (h : Filled xs zs k) (hk : k < xs.length) : Filled (xs.set k (.int .i64 (zs.getD k 0))) zs (k + 1) := by
  intro j hj
  rw [List.getElem?_set]
  by_cases e : k = j
  · subst e; rw [if_pos rfl, if_pos hk]
  · rw [if_neg e]; exact h j (by omega)

theorem Try.infoInt : (Try.prog.info? 3).map (fun i => (i.zero, i.size, i.bytes)) = some (some (.int .i64 0), 1, 8) := by kernel_rfl

set_option maxHeartbeats 1000000 in
theorem toInts_some (b off n cap : Nat) (zs : List Int) (w : World) (hn : zs.length = n) (hl : n ≤ 1048576)
    (hc : ∀ i, i < n → w.cell? ⟨b, off + i, none⟩ = some (.int .i64 (zs.getD i 0))) :
    Calls Try.prog 12 #[.slice (some ⟨b, off, none⟩) n cap] w fun e w' =>
      e = .returned (.slice (some ⟨w.heap.size, 0, none⟩) n n) ∧ Below w.heap.size w w' ∧ w.heap.size < w'.heap.size ∧ ∀ i, i < n → w'.cell? ⟨w.heap.size, i, none⟩ = some (.int .i64 (zs.getD i 0)) := by
  obtain ⟨i0, hi, hz0, hz1, hz2⟩ := info_parts Try.infoInt
  go_enter Try.func12, Try.ntmps12
  go_wp2_with (at_make; refine wpList_make_full _ rfl (.tmp 6) (.tmp 6) 27 rfl w.heap.size 3 i0 (.int .i64 0) 1 Try.underlying27 hi hz0 hz1 .i64 .i64 n n n rfl rfl rfl rfl (by rw [hz2]; omega) (by unfold maxLen; omega) (Nat.le_refl _) ?_; intro w1 hown1 hgrow1)
  have hb1 := (Below.refl w.heap.size w).grown hgrow1 (Nat.le_refl _) (by intro k h; cases h)
  have hsz1 := own_lt hown1
  clear hgrow1
  go_loopw [4] (fun i wr => ∃ k : Nat, k ≤ n ∧ i = .int .i64 k ∧ (∃ xs : List Value, wr.ownsRow w.heap.size 3 1 (.slice (some ⟨w.heap.size, 0, none⟩) n n) n xs ∧ Filled xs zs k) ∧ Below w.heap.size w wr) (fun i _ => n - (intOf i).toNat)
  case atStart => exact ⟨0, Nat.zero_le _, rfl, ⟨_, hown1, filled_zero _ _⟩, hb1⟩
  case round =>
    obtain ⟨k, hk, rfl, ⟨xs, hown, hfil⟩, hbw⟩ := hrel
    clear hown1 hb1 hsz1
    have hlen : xs.length = n := by simpa using hown.1
    by_cases hlt : k < n
    · have hcx : wr.cell? ⟨b, off + k, none⟩ = some (.int .i64 (zs.getD k 0)) := (hbw.cell (block_lt (hc k hlt))).trans (hc k hlt)
      have hfz := hown.frozenAt k
      obtain ⟨old, hold⟩ : ∃ old, wr.cell? ⟨w.heap.size, k, none⟩ = some old := ⟨_, (hown.cellAt k (by omega)).trans (List.getElem?_eq_getElem (by omega))⟩
      have hst := hown.stored k (.int .i64 (zs.getD k 0))
      have R := And.intro hst.1 (And.intro (filled_set hfil (by omega)) (hbw.setCell (p := ⟨w.heap.size, k, none⟩) (Nat.le_refl _) (.int .i64 (zs.getD k 0))))
      clear hst hown hfil hbw hlen hc
      obtain ⟨z, hz⟩ : ∃ z, z = zs.getD k 0 := ⟨_, rfl⟩
      rw [← hz] at hcx R
      clear hz
      go_wp2
      go_roundw
      case rel => exact ⟨k + 1, by omega, by go_num, ⟨_, R.1, R.2.1⟩, R.2.2⟩
      case measure => simp [intOf]; omega
    · go_wp2
      go_ret
      have : k = n := by omega
      subst this
      exact ⟨rfl, hbw, own_lt hown, fun i hi => (hown.cellAt i (by omega)).trans (hfil i hi)⟩

set_option maxHeartbeats 1000000 in
theorem toInts_none (a : Option Addr) (cap : Nat) (w : World) :
    Calls Try.prog 12 #[.slice a 0 cap] w fun e w' =>
      e = .returned (.slice (some ⟨w.heap.size, 0, none⟩) 0 0) ∧ Below w.heap.size w w' ∧ w.heap.size < w'.heap.size := by
  obtain ⟨i0, hi, hz0, hz1, hz2⟩ := info_parts Try.infoInt
  go_enter Try.func12, Try.ntmps12
  go_wp2_with (at_make; refine wpList_make_full _ rfl (.tmp 6) (.tmp 6) 27 rfl w.heap.size 3 i0 (.int .i64 0) 1 Try.underlying27 hi hz0 hz1 .i64 .i64 0 0 0 rfl rfl rfl rfl (by rw [hz2]; omega) (by unfold maxLen; omega) (Nat.le_refl _) ?_; intro w1 hown1 hgrow1)
  have hb1 := (Below.refl w.heap.size w).grown hgrow1 (Nat.le_refl _) (by intro k h; cases h)
  have hsz1 := own_lt hown1
  clear hgrow1 hown1
  refine wp_loop_rounds 1 ?_
  rw [rounds_succ]
  go_wp2
  go_ret
  exact ⟨rfl, hb1, hsz1⟩

/-- toIntS hands back a new row of the same numbers. -/
theorem toInts (a : Option Addr) (cap : Nat) (zs : List Int) (w : World) (hr : Row w a zs) (hl : zs.length ≤ 1048576) :
    Calls Try.prog 12 #[.slice a zs.length cap] w fun e w' =>
      e = .returned (.slice (some ⟨w.heap.size, 0, none⟩) zs.length zs.length) ∧ Below w.heap.size w w' ∧ w.heap.size < w'.heap.size ∧ Row w' (some ⟨w.heap.size, 0, none⟩) zs := by
  rcases hr with rfl | ⟨b, off, rfl, hc⟩
  · exact (toInts_none a cap w).mono fun e w' h => ⟨h.1, h.2.1, h.2.2, .inl rfl⟩
  · exact (toInts_some b off zs.length cap zs w rfl hl hc).mono fun e w' h => ⟨h.1, h.2.1, h.2.2.1, .inr ⟨_, 0, rfl, fun i hi => by rw [Nat.zero_add]; exact h.2.2.2 i hi⟩⟩

set_option maxHeartbeats 1000000 in
theorem eqInts_some (b off b' off' n cap cap' : Nat) (zs : List Int) (w : World) (hl : n ≤ 1048576)
    (hc : ∀ i, i < n → w.cell? ⟨b, off + i, none⟩ = some (.int .i64 (zs.getD i 0)))
    (hd : ∀ i, i < n → w.cell? ⟨b', off' + i, none⟩ = some (.int .i64 (zs.getD i 0))) :
    Calls Try.prog 14 #[.slice (some ⟨b, off, none⟩) n cap, .slice (some ⟨b', off', none⟩) n cap'] w fun e w' =>
      e = .returned (.bool true) ∧ Below w.heap.size w w' := by
  go_enter Try.func14, Try.ntmps14
  go_wp2
  go_loopw [5] (fun i wr => ∃ k : Nat, k ≤ n ∧ i = .int .i64 k ∧ Below w.heap.size w wr) (fun i _ => n - (intOf i).toNat)
  case atStart => exact ⟨0, Nat.zero_le _, rfl, Below.refl _ _⟩
  case round =>
    obtain ⟨k, hk, rfl, hbw⟩ := hrel
    by_cases hlt : k < n
    · obtain ⟨z, hz⟩ : ∃ z, z = zs.getD k 0 := ⟨_, rfl⟩
      have hcx : wr.cell? ⟨b, off + k, none⟩ = some (.int .i64 z) := by rw [hz]; exact (hbw.cell (block_lt (hc k hlt))).trans (hc k hlt)
      have hdx : wr.cell? ⟨b', off' + k, none⟩ = some (.int .i64 z) := by rw [hz]; exact (hbw.cell (block_lt (hd k hlt))).trans (hd k hlt)
      clear hz hc hd
      have hlt' : (k : Int) < (n : Int) := by omega
      go_wp2
      go_quiet (fail)
      go_wp2
      go_roundw
      case rel => exact ⟨k + 1, by omega, by go_num, below_drewN hbw _⟩
      case measure => simp [intOf]; omega
    · go_wp2
      go_ret
      exact ⟨rfl, hbw⟩

set_option maxHeartbeats 1000000 in
theorem eqInts_none (a a' : Option Addr) (cap cap' : Nat) (w : World) :
    Calls Try.prog 14 #[.slice a 0 cap, .slice a' 0 cap'] w fun e w' => e = .returned (.bool true) ∧ Below w.heap.size w w' := by
  go_enter Try.func14, Try.ntmps14
  go_wp2
  refine wp_loop_rounds 1 ?_
  rw [rounds_succ]
  go_wp2
  go_ret
  exact ⟨rfl, Below.refl _ _⟩

/-- eqIntS says yes of two rows of the same numbers. -/
theorem eqInts (a a' : Option Addr) (cap cap' : Nat) (zs : List Int) (w : World) (hr : Row w a zs) (hr' : Row w a' zs) (hl : zs.length ≤ 1048576) :
    Calls Try.prog 14 #[.slice a zs.length cap, .slice a' zs.length cap'] w fun e w' => e = .returned (.bool true) ∧ Below w.heap.size w w' := by
  rcases hr with rfl | ⟨b, off, rfl, hc⟩
  · exact eqInts_none a a' cap cap' w
  · rcases hr' with rfl | ⟨b', off', rfl, hd⟩
    · exact eqInts_none _ _ cap cap' w
    · exact eqInts_some b off b' off' zs.length cap cap' zs w hl hc hd
end Go.Proofs.Ytdomolphlkeipad
